/- PaintedAt of the program. -/
import Derived.Test.YtchofahdcohibaaGreatVPaints27
import Derived.Test.YtchofahdcohibaaGreatVPaints44
import Derived.Test.YtchofahdcohibaaGreatVPaints29
import Derived.Test.YtchofahdcohibaaGreatVPaints46
namespace Go.Proofs.YtchofahdcohibaaGreat
open Go.RowKit Go.Shelf
attribute [local go_sem] Oper.semAt_some
set_option linter.unusedSimpArgs false
set_option linter.unusedVariables false
set_option maxRecDepth 100000

theorem dc_cov {z x y : Int} {f : Feat} (hp : pixB z x y = true) : dcB 0 f.ki f.wi z x y (simpR 0 f.ki z f.n f.X f.Y (thinOf z f)) = covL z (centI z x) (centI z y) f := by
  unfold dcB covL simL
  rw [hp]
  simp
/-- What the sort tells, as a source. -/
theorem SortRes.srcF {base n c : Nat} {w : World} {a : Option Addr} {G T : Nat → Feat} (h : SortRes base w a n G T) (hf : featsC n G = 0) : SrcF w.heap.size w (.slice a n c) n T := by
  have hm : srtM n G = n := if_pos hf
  obtain ⟨h1, h2, h3⟩ := h
  rw [hm] at h1 h2 h3
  rcases h3 with h0 | ⟨g, q, ea, hQ⟩
  · subst h0
    exact .inl ⟨⟨_, _, rfl⟩, rfl⟩
  · rcases h1 with h0 | ⟨b, off, eb, hbl, hFs⟩
    · subst h0
      exact .inl ⟨⟨_, _, rfl⟩, rfl⟩
    · rw [ea] at eb
      injection eb with eb
      injection eb with e1 e2
      subst e1
      refine .inr ⟨g, c, by rw [ea], hbl, fun i hi => ?_⟩
      obtain ⟨hF, hP⟩ := hFs i hi
      rw [← e2, Nat.zero_add] at hF
      refine ⟨hF, ?_⟩
      have hpos : 0 < (T i).n := by
        have hok := (featsC_ok hf).2.2 _ (srtF_lt n G i hi)
        rw [(h2 i hi).2.2.2.2.1]
        exact (featC_zero hok).2.1
      rcases hP with h0 | ⟨q', o, e, hl, hp⟩
      · omega
      · exact ⟨q', o, e, hl, hp⟩
theorem set2b {n : Nat} {V W : World} {v0 v1 : Value} (h : Below n V W) : Below n V ((W.setCell ⟨n + 1 + 1 + 1, 0, none⟩ v0).setCell ⟨n + 1 + 1 + 1, 1, none⟩ v1) :=
  Below.setCell (Below.setCell h (show n ≤ n + 1 + 1 + 1 by omega) _) (show n ≤ n + 1 + 1 + 1 by omega) _
set_option maxHeartbeats 4000000 in
theorem impl_PaintedAt_no (z x y : Int) (b n cap : Nat) (G : Nat → Feat) (w : World) (hg : FsAt w b 0 n G) (hbl : b < w.heap.size) (hs : SmallFs n G) (hcap : n ≤ cap) (hC : paC z x y n G ≠ 0) :
    Calls Tryz.prog 6 #[.slice (some ⟨b, 0, none⟩) n cap, .int .i64 z, .int .i64 x, .int .i64 y] w fun e w' => e = .returned (.agg #[.int .i64 (paC z x y n G), .int .i64 0]) ∧ Below w.heap.size w w' := by
  have HG : Hid (FsAt w b 0 n G) := hg
  have HS : Hid (SmallFs n G) := hs
  clear hg hs
  have HC : Hid (paC z x y n G = if zoomB z = true then (if featsC n G = 0 then (if pixB z x y = true then 0 else 3) else featsC n G) else 3) := rfl
  have HNC : Hid (paC z x y n G ≠ 0) := hC
  clear hC
  go_enter Tryz.func6, Tryz.ntmps6
  go_wp2_with fail
  generalize hW : ((((w.alloc _).alloc _).alloc _).alloc _ : World) = W
  have HB0 : Hid (Below w.heap.size w W) := by show Below _ _ _; subst hW; (repeat (first | exact Below.refl _ _ | assumption | refine Below.drew ?_ | refine bl_alloc ?_ _ | refine bl_then ?_ (by assumption) | refine Below.setCell ?_ (by first | omega | (simp; done) | (simp; omega)) _ | refine bl_store ?_ ?_ _ _))
  have hsz : W.heap.size = w.heap.size + 4 := by subst hW; simp
  have HT : Hid (There W (w.heap.size + 1 + 1 + 1) 2) := by
    show There _ _ _
    subst hW
    exact fun o ho => by
      have : o = 0 ∨ o = 1 := by omega
      rcases this with rfl | rfl <;> exact ⟨⟨_, by simp [go_sem]; rfl⟩, by simp [go_sem]⟩
  have c0 : ∀ W', Below W.heap.size W W' → W'.cell? ⟨w.heap.size, 0, none⟩ = some (.int .i64 z) := fun W' h => by rw [h.cell (by rw [hsz]; simp <;> omega)]; subst hW; simp [go_sem]
  have c1 : ∀ W', Below W.heap.size W W' → W'.cell? ⟨w.heap.size + 1, 0, none⟩ = some (.int .i64 x) := fun W' h => by rw [h.cell (by rw [hsz]; simp <;> omega)]; subst hW; simp [go_sem]
  have c2 : ∀ W', Below W.heap.size W W' → W'.cell? ⟨w.heap.size + 1 + 1, 0, none⟩ = some (.int .i64 y) := fun W' h => by rw [h.cell (by rw [hsz]; simp <;> omega)]; subst hW; simp [go_sem]
  clear hW
  have HSZ : Hid (W.heap.size = w.heap.size + 4) := hsz
  clear hsz
  have res : ∀ (T : Array Value) (Wf : World) (v0 v1 : Value), T[8]?.getD undef = .pointer (some ⟨w.heap.size + 1 + 1 + 1, 0, none⟩) → Wf.cell? ⟨w.heap.size + 1 + 1 + 1, 0, none⟩ = some v0 → Wf.cell? ⟨w.heap.size + 1 + 1 + 1, 1, none⟩ = some v1 → (results Tryz.f6 T).run Tryz.prog Wf = .ok (.agg #[v0, v1]) Wf := fun T Wf v0 v1 hT h0 h1 => by
    simp [results, Tryz.results6, go_sem, hT, h0, h1]
  have put : ∀ (Wf : World) (v0 v1 : Value), There Wf (w.heap.size + 1 + 1 + 1) 2 → ((Wf.setCell ⟨w.heap.size + 1 + 1 + 1, 0, none⟩ v0).setCell ⟨w.heap.size + 1 + 1 + 1, 1, none⟩ v1).cell? ⟨w.heap.size + 1 + 1 + 1, 0, none⟩ = some v0 ∧ ((Wf.setCell ⟨w.heap.size + 1 + 1 + 1, 0, none⟩ v0).setCell ⟨w.heap.size + 1 + 1 + 1, 1, none⟩ v1).cell? ⟨w.heap.size + 1 + 1 + 1, 1, none⟩ = some v1 := fun Wf v0 v1 hT => by
    obtain ⟨u0, h0⟩ := (hT 0 (by omega)).1
    obtain ⟨u1, h1⟩ := (hT 1 (by omega)).1
    have ne : ∀ i j : Nat, i ≠ j → (⟨w.heap.size + 1 + 1 + 1, i, none⟩ : Addr) ≠ ⟨w.heap.size + 1 + 1 + 1, j, none⟩ := fun i j hij h => hij (by injection h)
    refine ⟨?_, ?_⟩
    · rw [set1_other (ne 1 0 (by omega))]; exact set1_same h0
    · exact set1_same (by rw [set1_other (ne 0 1 (by omega))]; exact h1)
  have d0 := c0 W (Below.refl _ _)
  have hT0 := HT.out
  have t0 := hT0.cell 0 (by omega)
  have t1 := hT0.cell 1 (by omega)
  have f0 := (hT0 0 (by omega)).2
  have f1 := (hT0 1 (by omega)).2
  clear hT0
  refine (isZoom_any _ _).mono ?_
  rintro e w1 ⟨rfl, rfl⟩
  cases hz : zoomB z
  · have HQ : Hid (paC z x y n G = 3) := by show _ = _; rw [HC.out, hz]; rfl
    go_wp2_with fail
    refine bodyPost_ret (res _ _ _ _ rfl (put _ (.int .i64 3) (.int .i64 0) HT.out).1 (put _ (.int .i64 3) (.int .i64 0) HT.out).2) rfl ⟨by rw [HQ.out], ?_⟩
    exact set2b HB0.out
  rw [hz, if_pos rfl] at HC
  clear t0 t1 f0 f1
  go_wp2_with fail
  refine (impl_SortFeatures_any b n cap G _ (HG.out.below HB0.out hbl) (Nat.lt_of_lt_of_le hbl HB0.out.size) HS.out hcap).mono ?_
  rintro e w2 ⟨a2, cc2, T2, rfl, hc2, _, hb2⟩
  have hT2 := HT.out.below hb2
  have HT2 : Hid (There w2 (w.heap.size + 1 + 1 + 1) 2) := hT2
  have HB2 : Hid (Below w.heap.size w w2) := bl_then HB0.out hb2
  have d0 := c0 w2 hb2
  have d1 := c1 w2 hb2
  have d2 := c2 w2 hb2
  have hl2 : w.heap.size + 1 + 1 + 1 < w2.heap.size := by have := HSZ.out; have := hb2.size; omega
  have hl0 : w.heap.size < w2.heap.size := by omega
  have hl1 : w.heap.size + 1 < w2.heap.size := by omega
  have hl11 : w.heap.size + 1 + 1 < w2.heap.size := by omega
  clear hb2
  by_cases hf : featsC n G = 0
  · rw [hf, if_pos rfl] at HC
    have hp : pixB z x y = false := by
      cases hp : pixB z x y
      · rfl
      · exfalso; apply HNC.out; rw [HC.out, hp]; rfl
    have HQ : Hid (paC z x y n G = 3) := by show _ = _; rw [HC.out, hp]; rfl
    rw [hf]
    clear hf hT2
    go_wp2_with fail
    generalize hV : (w2.alloc _ : World) = V
    have hbV : Below w2.heap.size w2 V := by subst hV; (repeat (first | exact Below.refl _ _ | assumption | refine Below.drew ?_ | refine bl_alloc ?_ _ | refine bl_then ?_ (by assumption) | refine Below.setCell ?_ (by first | omega | (simp; done) | (simp; omega)) _ | refine bl_store ?_ ?_ _ _))
    clear hV
    refine (isPixel_any _ _ _ _).mono ?_
    rintro e w3 ⟨rfl, hb3⟩
    rw [hp]
    have hT3 := HT2.out.below (bl_then hbV hb3)
    have HT3 : Hid (There w3 (w.heap.size + 1 + 1 + 1) 2) := hT3
    have HB3 : Hid (Below w.heap.size w w3) := bl_then HB2.out (bl_then hbV hb3)
    have t0 := hT3.cell 0 (by omega)
    have t1 := hT3.cell 1 (by omega)
    have f0 := (hT3 0 (by omega)).2
    have f1 := (hT3 1 (by omega)).2
    clear hT3 hb3 hbV
    go_wp2_with fail
    refine bodyPost_ret (res _ _ _ _ rfl (put _ (.int .i64 3) (.int .i64 0) HT3.out).1 (put _ (.int .i64 3) (.int .i64 0) HT3.out).2) rfl ⟨by rw [HQ.out], ?_⟩
    exact set2b HB3.out
  · rw [if_neg hf] at HC
    have hcb : (featsC n G == 0) = false := by simpa using hf
    obtain ⟨fc, hfc⟩ : ∃ fc, featsC n G = fc := ⟨_, rfl⟩
    rw [hfc] at HC hcb ⊢
    have t0 := hT2.cell 0 (by omega)
    have t1 := hT2.cell 1 (by omega)
    have f0 := (hT2 0 (by omega)).2
    have f1 := (hT2 1 (by omega)).2
    clear hf hfc hT2
    go_wp2_with fail
    obtain ⟨p0, p1⟩ := put _ (.int .i64 fc) (.int .i64 0) HT2.out
    have hBU : Below w.heap.size w ((w2.setCell ⟨w.heap.size + 1 + 1 + 1, 0, none⟩ (.int .i64 fc)).setCell ⟨w.heap.size + 1 + 1 + 1, 1, none⟩ (.int .i64 0)) := (HB2.out.setCell (by simp; omega) _).setCell (by simp; omega) _
    generalize hU : ((w2.setCell _ _).setCell _ _ : World) = U at *
    have r0 : ∀ O, (U.alloc O).cell? ⟨w.heap.size + 1 + 1 + 1, 0, none⟩ = some (.int .i64 fc) := fun O => (World.cell?_alloc_lt _ _ _ (World.block_lt_of_cell? _ _ p0)).trans p0
    have r1 : ∀ O, (U.alloc O).cell? ⟨w.heap.size + 1 + 1 + 1, 1, none⟩ = some (.int .i64 0) := fun O => (World.cell?_alloc_lt _ _ _ (World.block_lt_of_cell? _ _ p1)).trans p1
    refine bodyPost_ret (res _ _ _ _ rfl (r0 _) (r1 _)) rfl ⟨by rw [HC.out], ?_⟩
    exact bl_alloc hBU _
/-- What holds between two rounds. -/
def PtSt (M : Nat) (sv : Value) (C : Nat → Bool) {n : Nat} (W0 : World) (pre : List (Pl n)) (W : World) : Prop := (Boxed W M 24 sv ∧ (∀ x ∈ pre, C x.1 = false)) ∧ Below M W0 W
theorem PtSt.own (M : Nat) (sv : Value) (C : Nat → Bool) (n B : Nat) (W0 : World) (hM : M ≤ W0.heap.size) (hB : M ≤ B) : OwnFrom B (PtSt M sv C (n := n) W0) := fun pre W W' row h hg hr => by
  obtain ⟨⟨h1, h4⟩, h6⟩ := h
  exact ⟨⟨objS_keep h1 hg (fun r e => (hr r e).2), h4⟩, (ownFrom_below (β := Unit) hM hB) () W W' row h6 hg hr⟩
theorem PtSt.below {M : Nat} {sv : Value} {C : Nat → Bool} {n : Nat} {W0 W W' : World} {pre : List (Pl n)} (h : PtSt M sv C W0 pre W) (hM : M ≤ W.heap.size) (hb : Below W.heap.size W W') : PtSt M sv C W0 pre W' :=
  ⟨⟨(hb.block _ (lt_of_heap h.1.1)).trans h.1.1, h.1.2⟩, h.2.trans (hb.mono hM)⟩
theorem PtSt.no {M : Nat} {sv : Value} {C : Nat → Bool} {n : Nat} {W0 W : World} {pre : List (Pl n)} {x : Pl n} (h : PtSt M sv C W0 pre W) (hx : C x.1 = false) : PtSt M sv C W0 (pre ++ [x]) W := by
  obtain ⟨⟨h1, h4⟩, h6⟩ := h
  refine ⟨⟨h1, fun y hy => ?_⟩, h6⟩
  rcases List.mem_append.1 hy with hy | hy
  · exact h4 y hy
  · obtain rfl : y = x := by simpa using hy
    exact hx
/-- What holds where one was found. -/
def PtEx (w : World) (C : Nat → Bool) (I : Nat → Int) {n : Nat} (c : Code) (pre : List (Pl n)) (W : World) : Prop :=
  (c = .ret ∧ ∃ (p : List (Pl n)) (x : Pl n), pre = p ++ [x] ∧ (∀ y ∈ p, C y.1 = false) ∧ C x.1 = true ∧ W.heap[w.heap.size + 1 + 1 + 1]? = some (.cells #[.int .i64 0, .int .i64 (I x.1)] 28 (0, 0))) ∧ Below w.heap.size w W
theorem obj2_set {W : World} {B : Nat} {t : TypeId} {u0 u1 v0 v1 : Value} (h : W.heap[B]? = some (.cells #[u0, u1] t (0, 0))) : ((W.setCell ⟨B, 0, none⟩ v0).setCell ⟨B, 1, none⟩ v1).heap[B]? = some (.cells #[v0, v1] t (0, 0)) := by
  obtain ⟨hlt, hk⟩ := Array.getElem?_eq_some_iff.1 h
  have h1 : (W.setCell ⟨B, 0, none⟩ v0).heap[B]? = some (.cells #[v0, u1] t (0, 0)) := by
    show (W.heap.modify B _)[B]? = _
    rw [Array.getElem?_eq_getElem (by rw [Array.size_modify]; exact hlt), Array.getElem_modify_self, hk]
    rfl
  obtain ⟨hlt', hk'⟩ := Array.getElem?_eq_some_iff.1 h1
  show ((W.setCell ⟨B, 0, none⟩ v0).heap.modify B _)[B]? = _
  rw [Array.getElem?_eq_getElem (by rw [Array.size_modify]; exact hlt'), Array.getElem_modify_self, hk']
  rfl
theorem cell_of_obj {W : World} {B : Nat} {arr : Array Value} {t : TypeId} (h : W.heap[B]? = some (.cells arr t (0, 0))) (o : Nat) : W.cell? ⟨B, o, none⟩ = arr[o]? := by simp [World.cell?, h]
theorem SrcF.wide {T T' : Nat} {w : World} {v : Value} {n : Nat} {F : Nat → Feat} (h : SrcF T w v n F) (hT : T ≤ T') : SrcF T' w v n F := by
  rcases h with h | ⟨p, cap, e, h1, h2⟩
  · exact .inl h
  · exact .inr ⟨p, cap, e, Nat.lt_of_lt_of_le h1 hT, fun i hi => ⟨(h2 i hi).1, by obtain ⟨q, o, e, hl, hp⟩ := (h2 i hi).2; exact ⟨q, o, e, Nat.lt_of_lt_of_le hl hT, hp⟩⟩⟩
set_option maxHeartbeats 8000000 in
theorem impl_PaintedAt_ok (z x y : Int) (b n cap : Nat) (G : Nat → Feat) (w : World) (hg : FsAt w b 0 n G) (hbl : b < w.heap.size) (hs : SmallFs n G) (hcap : n ≤ cap) (hz : zoomB z = true) (hf : featsC n G = 0) (hpx : pixB z x y = true) :
    Calls Tryz.prog 6 #[.slice (some ⟨b, 0, none⟩) n cap, .int .i64 z, .int .i64 x, .int .i64 y] w fun e w' => e = .returned (.agg #[.int .i64 0, .int .i64 (paintS G n z x y)]) ∧ Below w.heap.size w w' := by
  have hm : srtM n G = n := if_pos hf
  have HSO : Hid (∀ W, Below w.heap.size w W → Calls Tryz.prog 8 #[.slice (some ⟨b, 0, none⟩) n cap] W fun e w' => ∃ a c T, e = .returned (.agg #[.int .i64 0, .slice a n c]) ∧ SrcF w'.heap.size w' (.slice a n c) n T ∧ (∀ i, i < n → (T i).same (G ((srtF n G).getD i 0)) ∧ (T i).n ≤ (T i).cap) ∧ Below W.heap.size W w') := fun W hW => (impl_SortFeatures_cap b n cap G W (hg.below hW hbl) (Nat.lt_of_lt_of_le hbl hW.size) hs hcap).mono fun e w' ⟨a, c, T, h1, h2, h3, h4⟩ => ⟨a, c, T, by rw [h1, hf, hm], h3.1.srcF hf, fun i hi => ⟨h3.1.2.1 i (by rw [hm]; exact hi), h3.2 i (by rw [hm]; exact hi)⟩, h4⟩
  have HPI : Hid (∀ W, Calls Tryz.prog 15 #[.int .i64 z, .int .i64 x, .int .i64 y] W fun e w' => e = .returned (.bool true) ∧ Below W.heap.size W w') := fun W => hpx ▸ isPixel_any z x y W
  have HZI : Hid (∀ W, Calls Tryz.prog 14 #[.int .i64 z] W fun e w' => e = .returned (.bool true) ∧ W = w') := fun W => hz ▸ isZoom_any z W
  have hn12 := (featsC_ok hf).1
  have HOK : Hid (∀ i, i < n → okC (G ((srtF n G).getD i 0))) := fun i hi => (featsC_ok hf).2.2 _ (srtF_lt n G i hi)
  have HSS : Hid (SmallFs n G) := hs
  have hm2 : srtM n G = n := hm
  clear hg hs
  refine (callsIn_wide (n := 4)).1 ?_
  refine callsIn_of_wp_marks Tryz.func6 rfl trivial ?_ rfl
  simp only [Tryz.ntmps6, List.size_toArray, List.length_cons, List.length_nil, Nat.reduceAdd, Nat.reduceSub, Array.replicate_succ, Array.replicate_zero, List.push_toArray, List.append_toArray, List.nil_append, List.cons_append]
  gi_wp2
  obtain ⟨W, hW⟩ : ∃ W, ((((w.alloc (.cells #[.int .i64 z] 2)).alloc (.cells #[.int .i64 x] 2)).alloc (.cells #[.int .i64 y] 2)).alloc (.cells #[.int .i64 0, .int .i64 0] 28) : World) = W := ⟨_, rfl⟩
  have b0 : Boxed W w.heap.size 2 (.int .i64 z) := by rw [← hW]; exact (((Boxed.new w 2 (.int .i64 z)).alloc _).alloc _).alloc _
  have b1 : Boxed W (w.heap.size + 1) 2 (.int .i64 x) := by
    rw [← hW]
    have := ((Boxed.new (w.alloc (.cells #[.int .i64 z] 2)) 2 (.int .i64 x)).alloc (.cells #[.int .i64 y] 2)).alloc (.cells #[.int .i64 0, .int .i64 0] 28)
    simpa using this
  have b2 : Boxed W (w.heap.size + 1 + 1) 2 (.int .i64 y) := by
    rw [← hW]
    have := (Boxed.new ((w.alloc (.cells #[.int .i64 z] 2)).alloc (.cells #[.int .i64 x] 2)) 2 (.int .i64 y)).alloc (.cells #[.int .i64 0, .int .i64 0] 28)
    simpa using this
  have oR : W.heap[w.heap.size + 1 + 1 + 1]? = some (.cells #[.int .i64 0, .int .i64 0] 28 (0, 0)) := by
    rw [← hW]
    have := World.alloc_heap_new (((w.alloc (.cells #[.int .i64 z] 2)).alloc (.cells #[.int .i64 x] 2)).alloc (.cells #[.int .i64 y] 2)) (.cells #[.int .i64 0, .int .i64 0] 28)
    simpa using this
  have hB0 : Below w.heap.size w W := by rw [← hW]; (repeat (first | exact Below.refl _ _ | assumption | refine Below.drew ?_ | refine bl_alloc ?_ _ | refine bl_then ?_ (by assumption) | refine Below.setCell ?_ (by first | omega | (simp; done) | (simp; omega)) _ | refine bl_store ?_ ?_ _ _))
  have hsz : W.heap.size = w.heap.size + 4 := by rw [← hW]; simp
  rw [hW]
  clear hW
  have HSZ : Hid (W.heap.size = w.heap.size + 4) := hsz
  clear hsz
  have HP0 : Hid (Boxed W w.heap.size 2 (.int .i64 z) ∧ Boxed W (w.heap.size + 1) 2 (.int .i64 x) ∧ Boxed W (w.heap.size + 1 + 1) 2 (.int .i64 y) ∧ W.heap[w.heap.size + 1 + 1 + 1]? = some (.cells #[.int .i64 0, .int .i64 0] 28 (0, 0))) := ⟨b0, b1, b2, oR⟩
  have KP : Hid (∀ W', Below W.heap.size W W' → Boxed W' w.heap.size 2 (.int .i64 z) ∧ Boxed W' (w.heap.size + 1) 2 (.int .i64 x) ∧ Boxed W' (w.heap.size + 1 + 1) 2 (.int .i64 y) ∧ W'.heap[w.heap.size + 1 + 1 + 1]? = some (.cells #[.int .i64 0, .int .i64 0] 28 (0, 0))) := fun W' h => ⟨(h.block _ (lt_of_heap HP0.out.1)).trans HP0.out.1, (h.block _ (lt_of_heap HP0.out.2.1)).trans HP0.out.2.1, (h.block _ (lt_of_heap HP0.out.2.2.1)).trans HP0.out.2.2.1, (h.block _ (lt_of_heap HP0.out.2.2.2)).trans HP0.out.2.2.2⟩
  refine ⟨trivial, ?_⟩
  refine (callsIn_wide.2 (HZI.out _)).mono ?_
  rintro e w1 ⟨rfl, rfl⟩
  clear b0 b1 b2 oR
  gi_wp2
  refine ⟨trivial, ?_⟩
  refine (callsIn_wide.2 (HSO.out _ hB0)).mono ?_
  rintro e w2 ⟨a2, cc2, T, rfl, hSrc, hTS, hb2⟩
  have HSrc : Hid (SrcF w2.heap.size w2 (.slice a2 n cc2) n T) := hSrc
  have HTS : Hid (∀ i, i < n → (T i).same (G ((srtF n G).getD i 0)) ∧ (T i).n ≤ (T i).cap) := hTS
  obtain ⟨b0, b1, b2, oR⟩ := KP.out w2 hb2
  have k0 := b0.cell
  have k1 := b1.cell
  have k2 := b2.cell
  have l0 := b0.lt
  have l1 := b1.lt
  have l2 := b2.lt
  have HB2 : Hid (Below W.heap.size W w2) := hb2
  clear hSrc hTS b0 b1 b2 oR hb2
  gi_wp2
  generalize hV : (w2.alloc _ : World) = V
  obtain ⟨B9, hB9⟩ : ∃ B9, B9 = w2.heap.size := ⟨_, rfl⟩
  have hbV : Below w2.heap.size w2 V := by subst hV; (repeat (first | exact Below.refl _ _ | assumption | refine Below.drew ?_ | refine bl_alloc ?_ _ | refine bl_then ?_ (by assumption) | refine Below.setCell ?_ (by first | omega | (simp; done) | (simp; omega)) _ | refine bl_store ?_ ?_ _ _))
  have oV : V.heap[B9]? = some (.cells #[.int .i64 0, .slice a2 n cc2] 31 (0, 0)) := by subst hV; rw [hB9]; exact World.alloc_heap_new w2 _
  clear hV k0 k1 k2 l0 l1 l2
  rw [← hB9]
  have HBV : Hid (Below W.heap.size W V) := bl_then HB2.out hbV
  have HSV : Hid (SrcF V.heap.size V (.slice a2 n cc2) n T) := (HSrc.out.below hbV).wide hbV.size
  clear hbV HSrc hB9
  refine ⟨trivial, ?_⟩
  refine (callsIn_wide.2 (HPI.out _)).mono ?_
  rintro e w3 ⟨rfl, hb3⟩
  have o9 := (hb3.block _ (lt_of_heap oV)).trans oV
  have k9 : w3.cell? ⟨B9, 1, none⟩ = some (.slice a2 n cc2) := by simp [World.cell?, o9]
  have HB3 : Hid (Below W.heap.size W w3) := bl_then HBV.out hb3
  have HS3 : Hid (SrcF w3.heap.size w3 (.slice a2 n cc2) n T) := (HSV.out.below hb3).wide hb3.size
  have hl9 := lt_of_heap o9
  clear oV o9 hb3 HBV HSV
  gi_wp2
  refine ⟨trivial, ?_⟩
  refine (callsIn_wide.2 (backwardF_any _ _ _ _)).mono ?_
  rintro e w4 ⟨rfl, rfl⟩
  gi_wp2
  obtain ⟨M, hM⟩ : ∃ M, w3.heap.size = M := ⟨_, rfl⟩
  obtain ⟨W0, hW0⟩ : ∃ W0, (w3.alloc (.cells #[.slice a2 n cc2] 24) : World) = W0 := ⟨_, rfl⟩
  have bM : Boxed W0 M 24 (.slice a2 n cc2) := by rw [← hW0, ← hM]; exact Boxed.new w3 _ _
  have hb30 : Below w3.heap.size w3 W0 := by rw [← hW0]; (repeat (first | exact Below.refl _ _ | assumption | refine Below.drew ?_ | refine bl_alloc ?_ _ | refine bl_then ?_ (by assumption) | refine Below.setCell ?_ (by first | omega | (simp; done) | (simp; omega)) _ | refine bl_store ?_ ?_ _ _))
  have hsz0 : W0.heap.size = M + 1 := by rw [← hW0, ← hM]; simp
  have HSW : Hid (SrcF M W0 (.slice a2 n cc2) n T) := by rw [← hM]; exact HS3.out.below hb30
  have HBW0 : Hid (Below W.heap.size W W0) := bl_then HB3.out hb30
  have HWM : Hid (W.heap.size ≤ M) := by rw [← hM]; exact HB3.out.size
  rw [hW0]
  rw [hM] at hl9 ⊢
  clear hW0 hb30 HS3 HB3 k9
  have st0 : PtSt M (.slice a2 n cc2) (fun i => covL z (centI z x) (centI z y) (T i)) (n := n) W0 [] W0 := ⟨⟨bM, fun x hx => by cases hx⟩, Below.refl _ _⟩
  have HPS : Hid (paintI (fun i => covL z (centI z x) (centI z y) (T i)) (fun i => (T i).id) n = paintS G n z x y) := by
    show _ = _
    unfold paintS
    refine paintI_congr fun i hi => ?_
    have hsm := (HTS.out i hi).1
    refine ⟨?_, hsm.1⟩
    unfold covL
    rw [simL_same hsm, hsm.2.2.1, hsm.2.2.2.1]
  refine wpIn_rangeFunc_ownH rfl (by omega) (gf := 38) (lb := #[.pointer (some ⟨M, 0, none⟩)]) rfl trivial (enters_of Tryz.func38 (by kernel_rfl) rfl)
    (backF_stops M M n (.slice a2 n cc2) T (by omega) W0 (by omega) (by omega) bM.cell HSW.out) (fun h k => KS.trans h k) (KS.put (by omega) (by omega)) (Below.refl _ _) (fun _ => rfl)
    (fun pre W' => PtSt M (.slice a2 n cc2) (fun i => covL z (centI z x) (centI z y) (T i)) W0 pre W')
    (fun c pre W' => PtEx w (fun i => covL z (centI z x) (centI z y) (T i)) (fun i => (T i).id) c pre W')
    (PtSt.own M _ _ n _ W0 (by omega) (by omega))
    ?hIx
    st0
    (fun x' a' W' => ∃ Bx, W'.heap[Bx]? = some (.cells #[.int .i64 (T x'.1).id, .int .i64 (T x'.1).la, .int .i64 (T x'.1).ki, .int .i64 (T x'.1).wi, .slice (T x'.1).a (T x'.1).n (T x'.1).cap, .string (T x'.1).lab, .int .i64 (T x'.1).pr] 36 (0, 0)) ∧ a' = { tmps := #[.slice (some ⟨b, 0, none⟩) n cap, .int .i64 z, .int .i64 x, .int .i64 y, undef, .pointer (some ⟨w.heap.size, 0, none⟩), .pointer (some ⟨w.heap.size + 1, 0, none⟩), .pointer (some ⟨w.heap.size + 1 + 1, 0, none⟩), .pointer (some ⟨w.heap.size + 1 + 1 + 1, 0, none⟩), .pointer (some ⟨B9, 0, none⟩), undef, .pointer (some ⟨Bx, 0, none⟩), .int .i64 z, .bool true, .bool false, undef, .slice (some ⟨b, 0, none⟩) n cap, .agg #[.int .i64 0, .slice a2 n cc2], .pointer (some ⟨B9, 0, none⟩), .int .i64 0, .bool false, undef, undef, undef, .int .i64 z, .int .i64 x, .int .i64 y, .bool true, .bool false, undef, .pointer (some ⟨B9, 1, none⟩), .slice a2 n cc2, .func (.func 38) #[] #[.pointer (some ⟨M, 0, none⟩)], .int .i64 (x'.1 : Int), ftV (T x'.1), undef, undef, undef, undef, undef, undef, undef, undef, undef], defers := [] })
    ?hAx ?assign ?body ?done ?stop
  case hIx =>
    rintro c pre A B row ⟨⟨hc, p, x', e1, e2, e3, e4⟩, hB⟩ hg hr
    exact ⟨⟨hc, p, x', e1, e2, e3, objS_keep e4 hg (fun r e => (hr r e).2)⟩, (ownFrom_below (β := Unit) (Nat.le_refl _) (by have := HSZ.out; have := HWM.out; omega)) () A B row hB hg hr⟩
  case hAx =>
    rintro x' a' _ X Y row ⟨Bx, e1, e2⟩ hg hr
    exact ⟨Bx, objS_keep e1 hg (fun r e => (hr r e).2), e2⟩
  case assign =>
    rintro l pre x' W' K hst hK
    have hWM : M ≤ W'.heap.size := Nat.le_trans (by omega) hst.2.size
    have hK2 := hK { tmps := #[.slice (some ⟨b, 0, none⟩) n cap, .int .i64 z, .int .i64 x, .int .i64 y, undef, .pointer (some ⟨w.heap.size, 0, none⟩), .pointer (some ⟨w.heap.size + 1, 0, none⟩), .pointer (some ⟨w.heap.size + 1 + 1, 0, none⟩), .pointer (some ⟨w.heap.size + 1 + 1 + 1, 0, none⟩), .pointer (some ⟨B9, 0, none⟩), undef, .pointer (some ⟨W'.heap.size, 0, none⟩), .int .i64 z, .bool true, .bool false, undef, .slice (some ⟨b, 0, none⟩) n cap, .agg #[.int .i64 0, .slice a2 n cc2], .pointer (some ⟨B9, 0, none⟩), .int .i64 0, .bool false, undef, undef, undef, .int .i64 z, .int .i64 x, .int .i64 y, .bool true, .bool false, undef, .pointer (some ⟨B9, 1, none⟩), .slice a2 n cc2, .func (.func 38) #[] #[.pointer (some ⟨M, 0, none⟩)], .int .i64 (x'.1 : Int), ftV (T x'.1), undef, undef, undef, undef, undef, undef, undef, undef, undef], defers := [] } (W'.alloc (.cells #[.int .i64 (T x'.1).id, .int .i64 (T x'.1).la, .int .i64 (T x'.1).ki, .int .i64 (T x'.1).wi, .slice (T x'.1).a (T x'.1).n (T x'.1).cap, .string (T x'.1).lab, .int .i64 (T x'.1).pr] 36))
      ((KeepsOthers.alloc _ _).from _) ((KS.refl _ _ _).alloc hWM hst.1.1.lt _) (hst.below hWM (bl_alloc (Below.refl _ _) _)) ⟨_, World.alloc_heap_new W' _, rfl⟩
    simp only [encF, ftV] at *
    have hsem : ∀ (ρ : Operand → Value) (o : Oper), (∀ c, o.op ≠ .defer c) → Oper.semAt (some l) ρ o = execOp ρ o := fun ρ o h => Oper.semAt_some l ρ o h
    gi_wp2
    exact hK2
  case body =>
    rintro l pre x' a' W' hl hlr hst ⟨Bx, hE, rfl⟩ hlt
    have HST : Hid (PtSt M (.slice a2 n cc2) (fun i => covL z (centI z x) (centI z y) (T i)) W0 pre W') := hst
    have hWM : M ≤ W'.heap.size := Nat.le_trans (by omega) hst.2.size
    have HBW : Hid (Below W.heap.size W W') := HBW0.out.trans (hst.2.mono HWM.out)
    have hFtP : FtP W' M (T x'.1) := by
      rcases HSW.out with ⟨_, h0⟩ | ⟨p, c, e, h1, h2⟩
      · exact absurd x'.2 (by omega)
      · exact (h2 x'.1 x'.2).2.below hst.2
    have hok : okC (T x'.1) := by
      have := HOK.out x'.1 x'.2
      obtain ⟨s1, s2, s3, s4, s5, s6, s7, s8, s9⟩ := (HTS.out x'.1 x'.2).1
      unfold okC
      rw [s1, s2, s3, s4, s5, s6, s7, s8, s9]
      exact this
    have HMC : Hid (Calls Tryz.prog 9 #[ftV (T x'.1), .int .i64 z, .int .i64 x, .int .i64 y] W' fun e w' => e = .returned (.bool (covL z (centI z x) (centI z y) (T x'.1))) ∧ Below W'.heap.size W' w') := by
      obtain ⟨q, o, ea, hq, hp⟩ := hFtP
      obtain ⟨_, _, h12, _, _, hlab⟩ := featC_zero hok
      have hd := impl_DoesCover_any (T x'.1).id (T x'.1).la (T x'.1).ki (T x'.1).wi z x y q (T x'.1).n (T x'.1).cap (T x'.1).X (T x'.1).Y (T x'.1).lab (T x'.1).pr (thinOf z (T x'.1)) W' hp (Nat.lt_of_lt_of_le hq hWM) (by omega) (HTS.out x'.1 x'.2).2 (by omega) (thinOf_spec z (T x'.1)) 0 (by rw [show featC (T x'.1).id (T x'.1).la (T x'.1).ki (T x'.1).wi (T x'.1).n (T x'.1).X (T x'.1).Y (T x'.1).lab (T x'.1).pr = 0 from hok]; simp [simpC, hz])
      rw [dc_cov hpx, ← ea] at hd
      exact hd
    obtain ⟨b0, b1, b2, oR⟩ := KP.out W' HBW.out
    have k0 := b0.cell
    have k1 := b1.cell
    have k2 := b2.cell
    have e0 : W'.cell? ⟨Bx, 0, none⟩ = some (.int .i64 (T x'.1).id) := by simp [World.cell?, hE]
    have e1 : W'.cell? ⟨Bx, 1, none⟩ = some (.int .i64 (T x'.1).la) := by simp [World.cell?, hE]
    have e2 : W'.cell? ⟨Bx, 2, none⟩ = some (.int .i64 (T x'.1).ki) := by simp [World.cell?, hE]
    have e3 : W'.cell? ⟨Bx, 3, none⟩ = some (.int .i64 (T x'.1).wi) := by simp [World.cell?, hE]
    have e4 : W'.cell? ⟨Bx, 4, none⟩ = some (.slice (T x'.1).a (T x'.1).n (T x'.1).cap) := by simp [World.cell?, hE]
    have e5 : W'.cell? ⟨Bx, 5, none⟩ = some (.string (T x'.1).lab) := by simp [World.cell?, hE]
    have e6 : W'.cell? ⟨Bx, 6, none⟩ = some (.int .i64 (T x'.1).pr) := by simp [World.cell?, hE]
    have HWM' : Hid (M ≤ W'.heap.size) := hWM
    clear hst hFtP hok hWM b0 b1 b2 oR
    obtain ⟨mb, hmb⟩ : ∃ mb, covL z (centI z x) (centI z y) (T x'.1) = mb := ⟨_, rfl⟩
    have HMB : Hid (covL z (centI z x) (centI z y) (T x'.1) = mb) := hmb
    rw [hmb] at HMC
    clear hmb
    have hsem : ∀ (ρ : Operand → Value) (o : Oper), (∀ c, o.op ≠ .defer c) → Oper.semAt (some l) ρ o = execOp ρ o := fun ρ o h => Oper.semAt_some l ρ o h
    cases mb
    · gi_wp2_with (refine ⟨trivial, ?_⟩; gi_at_call 9; refine ((callsIn_wide.2 HMC.out).inRound l).mono ?_; rintro e W1 ⟨rfl, hbm⟩)
      exact ⟨(keepsS hbm).from _, ⟨hbm.mono HWM'.out, hbm.block _ HST.out.1.1.lt⟩, (HST.out.below HWM'.out hbm).no HMB.out⟩
    · gi_wp2_with (refine ⟨trivial, ?_⟩; gi_at_call 9; refine ((callsIn_wide.2 HMC.out).inRound l).mono ?_; rintro e W1 ⟨rfl, hbm⟩; have hE1 := (hbm.block _ (lt_of_heap hE)).trans hE; have g0 : W1.cell? ⟨Bx, 0, none⟩ = some (.int .i64 (T x'.1).id) := (by simp [World.cell?, hE1]); have oR := (KP.out W1 (bl_then HBW.out hbm)).2.2.2; have t0 : W1.cell? ⟨w.heap.size + 1 + 1 + 1, 0, none⟩ = some (.int .i64 0) := (by simp [World.cell?, oR]); have t1 : W1.cell? ⟨w.heap.size + 1 + 1 + 1, 1, none⟩ = some (.int .i64 0) := (by simp [World.cell?, oR]); have f0 : W1.frozen? ⟨w.heap.size + 1 + 1 + 1, 0, none⟩ = false := (by simp [World.frozen?, oR]); have f1 : W1.frozen? ⟨w.heap.size + 1 + 1 + 1, 1, none⟩ = false := (by simp [World.frozen?, oR]))
      exact ⟨((keepsS hbm).trans ((KeepsOthers.setCell _ _ _).trans (KeepsOthers.setCell _ _ _))).from _, ⟨rfl, pre, x', rfl, HST.out.1.2, HMB.out, obj2_set oR⟩, set2b (bl_then hB0 (bl_then HBW.out hbm))⟩
  case done =>
    rintro D ys W' hD hys ⟨⟨bS, hall⟩, hB⟩ hK
    have hBW := HBW0.out.trans (hB.mono HWM.out)
    obtain ⟨b0, b1, b2, oR⟩ := KP.out W' hBW
    have t0 : W'.cell? ⟨w.heap.size + 1 + 1 + 1, 0, none⟩ = some (.int .i64 0) := by simp [World.cell?, oR]
    have t1 : W'.cell? ⟨w.heap.size + 1 + 1 + 1, 1, none⟩ = some (.int .i64 0) := by simp [World.cell?, oR]
    have f0 : W'.frozen? ⟨w.heap.size + 1 + 1 + 1, 0, none⟩ = false := by simp [World.frozen?, oR]
    have f1 : W'.frozen? ⟨w.heap.size + 1 + 1 + 1, 1, none⟩ = false := by simp [World.frozen?, oR]
    gi_wp2
    have oU := obj2_set (v0 := .int .i64 0) (v1 := .int .i64 0) oR
    have hK' := ((KeepsOthers.setCell W' ⟨w.heap.size + 1 + 1 + 1, 0, none⟩ (.int .i64 0)).trans (KeepsOthers.setCell _ ⟨w.heap.size + 1 + 1 + 1, 1, none⟩ (.int .i64 0))).same D _ hK rfl
    refine ⟨by simp, .inl ⟨_, _, rfl, run_takeDeferred hK', ?_⟩⟩
    have oV := objS_keep oU (grownBy_putObj' _ D (.deferred none)) (fun r e => by cases e; exact ⟨_, hK', rfl⟩)
    have c0 := cell_of_obj oV 0
    have c1 := cell_of_obj oV 1
    refine ⟨.agg #[.int .i64 0, .int .i64 0], ?_, by rw [← HPS.out, front_done hys hall], (set2b (bl_then hB0 hBW)).trans (belowK_b (w := w) (Nat.le_refl _) _ D _ _ (by have := HSZ.out; have := HWM.out; omega) hK' rfl rfl)⟩
    simp [results, Tryz.f6, go_sem, c0, c1]
  case stop =>
    rintro D c pre W' hD hpre ⟨⟨rfl, p, x', rfl, hall, hx, oR⟩, hB⟩ hK
    gi_wp2
    refine ⟨by simp, .inl ⟨_, _, rfl, run_takeDeferred hK, ?_⟩⟩
    have oV := objS_keep oR (grownBy_putObj' _ D (.deferred none)) (fun r e => by cases e; exact ⟨_, hK, rfl⟩)
    have c0 := cell_of_obj oV 0
    have c1 := cell_of_obj oV 1
    refine ⟨.agg #[.int .i64 0, .int .i64 (T x'.1).id], ?_, by rw [← HPS.out, front_stop (I := fun i => (T i).id) hpre hall hx], hB.trans (belowK_b (w := w) (Nat.le_refl _) W' D _ _ (by have := HSZ.out; have := HWM.out; omega) hK rfl rfl)⟩
    simp [results, Tryz.f6, go_sem, c0, c1]
theorem impl_PaintedAt_any (z x y : Int) (b n cap : Nat) (G : Nat → Feat) (w : World) (hg : FsAt w b 0 n G) (hbl : b < w.heap.size) (hs : SmallFs n G) (hcap : n ≤ cap) :
    Calls Tryz.prog 6 #[.slice (some ⟨b, 0, none⟩) n cap, .int .i64 z, .int .i64 x, .int .i64 y] w fun e w' => e = .returned (.agg #[.int .i64 (paC z x y n G), .int .i64 (paV z x y n G)]) ∧ Below w.heap.size w w' := by
  by_cases hC : paC z x y n G = 0
  · have h3 : zoomB z = true ∧ featsC n G = 0 ∧ pixB z x y = true := by
      unfold paC at hC
      split at hC
      · rename_i hz
        split at hC
        · rename_i hf
          split at hC
          · rename_i hp
            exact ⟨hz, hf, hp⟩
          · omega
        · rename_i hf
          exact absurd hC hf
      · omega
    rw [hC, show paV z x y n G = paintS G n z x y from if_pos hC]
    exact impl_PaintedAt_ok z x y b n cap G w hg hbl hs hcap h3.1 h3.2.1 h3.2.2
  · rw [show paV z x y n G = 0 from if_neg hC]
    exact impl_PaintedAt_no z x y b n cap G w hg hbl hs hcap hC
end Go.Proofs.YtchofahdcohibaaGreat
