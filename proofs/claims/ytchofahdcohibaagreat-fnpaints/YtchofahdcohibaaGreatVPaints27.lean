/- Several texts in one. -/
import Derived.Test.YtchofahdcohibaaGreatVPaints13
import Derived.Test.YtchofahdcohibaaGreatVPaints26
import Derived.Deep.CutBlock
import Derived.Deep.DeepCutAuto
import Derived.Deep.RegionHeld3
import Derived.Test.YtchofahdcohibaaGreatVPaints25
import Derived.Test.YtchofahdcohibaaGreatVPaints7
import Derived.Test.YtchofahdcohibaaGreatVPaints9
import Derived.RangeFuncNested
import Derived.RangeFuncBound
import Derived.RangeFuncCalls
import Derived.RangeFuncLeaves
import Derived.RangeFuncBox
import Derived.Shelf.Abstract
import Derived.Shelf.RegionOpen
import Derived.OwnWalkIn
import Derived.TacticsInMore
import Derived.LoopNIn
import Derived.LoopIn
import Derived.Test.YtchofahdcohibaaGreatVPaints12

/- The model's order of two features. -/

namespace Go.Proofs.YtchofahdcohibaaGreat
open Go.RowKit
set_option linter.unusedSimpArgs false
set_option linter.unusedVariables false
set_option maxRecDepth 100000

theorem addK (b o i : Nat) : (⟨b, o, none⟩ : Addr).add i = ⟨b, o + i, none⟩ := by unfold Addr.add; split <;> simp_all
def ltF (f g : Feat) : Bool := decide (f.la < g.la) || (decide (f.la = g.la) && decide (f.id < g.id))
set_option maxHeartbeats 4000000 in
theorem l2Ahead_any (p o p' o' : Nat) (f g : Feat) (w : World) (h0 : w.cell? ⟨p, o, none⟩ = some (.int .i64 f.id)) (h1 : w.cell? ⟨p, o + 1, none⟩ = some (.int .i64 f.la)) (k0 : w.cell? ⟨p', o', none⟩ = some (.int .i64 g.id)) (k1 : w.cell? ⟨p', o' + 1, none⟩ = some (.int .i64 g.la)) :
    Calls Tryz.prog 71 #[.pointer (some ⟨p, o, none⟩), .pointer (some ⟨p', o', none⟩)] w fun e w' => e = .returned (.bool (ltF f g)) ∧ Below w.heap.size w w' := by
  by_cases hx : f.la < g.la
  · have HU : Hid (ltF f g = true) := by show _ = _; simp [ltF, hx]
    go_enter Tryz.func71, Tryz.ntmps71
    go_wp2_with fail
    go_region
    go_wp2
    go_ret
    exact ⟨ret_bool HU.out.symm, by (repeat (first | exact Below.refl _ _ | assumption | refine Below.drew ?_ | refine bl_alloc ?_ _ | refine bl_then ?_ (by assumption) | refine Below.setCell ?_ (by first | omega | (simp; done) | (simp; omega)) _ | refine bl_store ?_ ?_ _ _))⟩
  · have hx' : decide (f.la < g.la) = false := by simpa using hx
    by_cases hy : f.la = g.la
    · have hy' : (f.la == g.la) = true := by simpa using hy
      by_cases hz : f.id < g.id
      · have HU : Hid (ltF f g = true) := by show _ = _; simp [ltF, hy, hz]
        clear hy hx
        go_enter Tryz.func71, Tryz.ntmps71
        go_wp2_with fail
        go_region
        go_wp2
        go_ret
        exact ⟨ret_bool HU.out.symm, by (repeat (first | exact Below.refl _ _ | assumption | refine Below.drew ?_ | refine bl_alloc ?_ _ | refine bl_then ?_ (by assumption) | refine Below.setCell ?_ (by first | omega | (simp; done) | (simp; omega)) _ | refine bl_store ?_ ?_ _ _))⟩
      · have hz' : decide (f.id < g.id) = false := by simpa using hz
        have HU : Hid (ltF f g = false) := by show _ = _; simp [ltF, hx]; omega
        clear hy hx hz
        go_enter Tryz.func71, Tryz.ntmps71
        go_wp2_with fail
        go_region
        go_wp2
        go_ret
        exact ⟨ret_bool HU.out.symm, by (repeat (first | exact Below.refl _ _ | assumption | refine Below.drew ?_ | refine bl_alloc ?_ _ | refine bl_then ?_ (by assumption) | refine Below.setCell ?_ (by first | omega | (simp; done) | (simp; omega)) _ | refine bl_store ?_ ?_ _ _))⟩
    · have hy' : (f.la == g.la) = false := by simpa using hy
      have HU : Hid (ltF f g = false) := by show _ = _; simp [ltF, hx, hy]
      clear hy hx
      go_enter Tryz.func71, Tryz.ntmps71
      go_wp2_with fail
      go_region
      go_wp2
      go_ret
      exact ⟨ret_bool HU.out.symm, by (repeat (first | exact Below.refl _ _ | assumption | refine Below.drew ?_ | refine bl_alloc ?_ _ | refine bl_then ?_ (by assumption) | refine Below.setCell ?_ (by first | omega | (simp; done) | (simp; omega)) _ | refine bl_store ?_ ?_ _ _))⟩
end Go.Proofs.YtchofahdcohibaaGreat
/- Whether features are in order: the program's and the model's way. -/

namespace Go.Proofs.YtchofahdcohibaaGreat
open Go.RowKit
set_option linter.unusedSimpArgs false
set_option linter.unusedVariables false
set_option maxRecDepth 100000

/-- No feature is below the one ahead of it; each is above it. -/
def ordI (n : Nat) (G : Nat → Feat) : Bool := decide (∀ i, i < n - 1 → ltF (G (i + 1)) (G i) = false)
def ordS (n : Nat) (G : Nat → Feat) : Bool := decide (∀ i, i < n - 1 → ltF (G i) (G (i + 1)) = true)
theorem cmpF_neg (f g : Feat) : cmpF f g < 0 ↔ ltF f g = true := by
  unfold cmpF orI cmpI ltF
  by_cases h1 : f.la < g.la
  · simp [h1]
  · by_cases h2 : g.la < f.la
    · have : ¬ f.la = g.la := by omega
      simp [h1, h2, this]
    · have : f.la = g.la := by omega
      by_cases h3 : f.id < g.id
      · simp [h1, h2, h3, this]
      · by_cases h4 : g.id < f.id <;> simp [h1, h2, h3, h4, this]
theorem ord_same {n : Nat} {G : Nat → Feat} (h : apartK (fun i => (G i).id) n) : ordI n G = ordS n G := by
  unfold ordI ordS
  rw [decide_eq_decide]
  refine forall_congr' fun i => forall_congr' fun hi => ?_
  have hne : (G i).id ≠ (G (i + 1)).id := fun e => by have := h i (i + 1) (by omega) (by omega) e; omega
  unfold ltF
  simp
  constructor
  · intro ⟨h1, h2⟩
    omega
  · intro h1
    omega
theorem ord_congr {n : Nat} {G H : Nat → Feat} (h : ∀ i, i < n → (G i).same (H i)) : ordS n G = ordS n H := by
  unfold ordS
  rw [decide_eq_decide]
  refine forall_congr' fun i => forall_congr' fun hi => ?_
  unfold ltF
  rw [(h i (by omega)).1, (h i (by omega)).2.1, (h (i + 1) (by omega)).1, (h (i + 1) (by omega)).2.1]
theorem ordI_bad {n : Nat} {G : Nat → Feat} (i : Nat) (hi : i + 1 < n) (h : ltF (G (i + 1)) (G i) = true) : ordI n G = false := by
  unfold ordI
  rw [decide_eq_false]
  intro hc
  rw [hc i (by omega)] at h
  cases h
theorem ordS_bad {n : Nat} {G : Nat → Feat} (i : Nat) (hi : i + 1 < n) (h : ltF (G i) (G (i + 1)) = false) : ordS n G = false := by
  unfold ordS
  rw [decide_eq_false]
  intro hc
  rw [hc i (by omega)] at h
  cases h

end Go.Proofs.YtchofahdcohibaaGreat
/- What is painted at a pixel, and the raster of a tile: the model. -/

namespace Go.Proofs.YtchofahdcohibaaGreat
open Go.RowKit
set_option linter.unusedSimpArgs false
set_option linter.unusedVariables false
set_option maxRecDepth 100000

/-- Whether a feature, as it is, covers a centre. -/
def covF (z cx cy : Int) (f : Feat) : Bool := coverB f.ki f.wi z cx cy (dblL f.X f.Y f.n)
/-- The last one for which it is so. -/
def paintI (C : Nat → Bool) (I : Nat → Int) : Nat → Int
  | 0 => 0
  | n + 1 => if C n = true then I n else paintI C I n
/-- What is painted at a pixel. -/
def paintF (G : Nat → Feat) (n : Nat) (z x y : Int) : Int := paintI (fun i => covF z (centI z x) (centI z y) (G i)) (fun i => (G i).id) n
theorem paintF_yes {G : Nat → Feat} {n : Nat} {z x y : Int} (h : covF z (centI z x) (centI z y) (G n) = true) : paintF G (n + 1) z x y = (G n).id := by
  unfold paintF; rw [paintI, if_pos h]
theorem paintF_no {G : Nat → Feat} {n : Nat} {z x y : Int} (h : covF z (centI z x) (centI z y) (G n) = false) : paintF G (n + 1) z x y = paintF G n z x y := by
  unfold paintF; rw [paintI, if_neg (by rw [h]; simp)]
/-- What a feature without a fault has. -/
structure OkF (f : Feat) : Prop where
  kn : kindN f.ki f.n
  n0 : 0 < f.n
  n12 : f.n ≤ 12
  inw : ∀ i, i < f.n → inW (f.X i) (f.Y i) = true
  wid : 0 ≤ f.wi ∧ f.wi ≤ 3
theorem okF_of {f : Feat} (h : featC f.id f.la f.ki f.wi f.n f.X f.Y f.lab f.pr = 0) : OkF f := by
  obtain ⟨hk, h0, h12, hkn, hin, _⟩ := featC_zero h
  refine ⟨?_, h0, h12, hin, (featC_rng h).2.2.1⟩
  rcases hk with hk | hk | hk
  · rw [hk] at h
    exact .inl ⟨hk, featC_point h⟩
  · exact .inr (.inl ⟨hk, by omega⟩)
  · exact .inr (.inr ⟨hk, by omega⟩)
theorem feats_okF {n : Nat} {G : Nat → Feat} (h : featsC n G = 0) : n ≤ 12 ∧ ∀ i, i < n → OkF (G i) := ⟨(featsC_ok h).1, fun i hi => okF_of ((featsC_ok h).2.2 i hi)⟩
theorem FsAt.pts {w : World} {b off n i : Nat} {G : Nat → Feat} (h : FsAt w b off n G) (hi : i < n) (h0 : 0 < (G i).n) : ∃ q o, (G i).a = some ⟨q, o, none⟩ ∧ q < w.heap.size ∧ PtsAt w q o (G i).n (G i).X (G i).Y := by
  rcases (h i hi).2 with h' | ⟨q, o, e, hl, hp⟩
  · omega
  · exact ⟨q, o, e, hl, hp⟩
theorem ownsRow_succR {w : World} {base : Nat} {t : TypeId} {s : Nat} {v : Value} {n : Nat} {l : List Value} (h : w.ownsRow base t s v (n + 1) l) : ∃ a c, v = .slice a (n + 1) c := by
  obtain ⟨_, h2 | ⟨g, cp, cur, hv, _⟩⟩ := h
  · exact absurd h2.2 (by omega)
  · exact ⟨_, _, hv⟩
/-- The pixels of a tile, one behind the other. -/
def rasK (G : Int → Int → Int) (x y : Int) (k : Nat) : List Int := (List.range k).map fun (k : Nat) => G (x + ((k % 8 : Nat) : Int)) (y + ((k / 8 : Nat) : Int))
theorem rasK_64 (G : Int → Int → Int) (x y : Int) : rowsL G x y 8 8 = rasK G x y 64 := rfl
theorem rasK_add (G : Int → Int → Int) (x y : Int) (k : Nat) : rasK G x y (k + 1) = rasK G x y k ++ [G (x + ((k % 8 : Nat) : Int)) (y + ((k / 8 : Nat) : Int))] := by simp [rasK, List.range_succ]
theorem rasK_len (G : Int → Int → Int) (x y : Int) (k : Nat) : (rasK G x y k).length = k := by simp [rasK]
theorem pix_of_ref {z x y : Int} (h : refB z x y = true) (m q : Nat) (hm : m < 8) (hq : q < 8) : pixB z (x * 8 + (m : Int)) (y * 8 + (q : Int)) = true := by
  have hz : zoomB z = true := by simp [refB] at h; exact h.1
  unfold refB at h
  rcases zoomB_cases hz with rfl | rfl | rfl | rfl <;> simp [inB, lastI] at h <;> simp [pixB, inB, pixI, hz] <;> omega
set_option maxHeartbeats 4000000 in
theorem l4Painted_any (b n cap : Nat) (G : Nat → Feat) (z x y : Int) (w : World) (hg : FsAt w b 0 n G) (hbl : b < w.heap.size) (hn : n ≤ 12) (hok : ∀ i, i < n → OkF (G i)) (hpx : pixB z x y = true) :
    Calls Tryz.prog 20 #[.slice (some ⟨b, 0, none⟩) n cap, .int .i64 z, .int .i64 x, .int .i64 y] w fun e w' => e = .returned (.int .i64 (paintF G n z x y)) ∧ Below w.heap.size w w' := by
  have HG : Hid (FsAt w b 0 n G) := hg
  have HOK : Hid (∀ i, i < n → OkF (G i)) := hok
  have HPX : Hid (pixB z x y = true) := hpx
  clear hg hok hpx
  have hn0 : IntKind.i64.wrap ((n : Int) - 1) = (n : Int) - 1 := IntWalk.i64_in _ (by omega)
  go_enter Tryz.func20, Tryz.ntmps20
  go_wp2_with fail
  go_loopw [9] (fun i wr => ∃ k : Nat, k ≤ n ∧ i = .int .i64 ((k : Int) - 1) ∧ paintF G n z x y = paintF G k z x y ∧ Below w.heap.size w wr) (fun i _ => (intOf i + 1).toNat)
  case atStart => exact ⟨n, Nat.le_refl _, by first | rfl | rw [hn0], rfl, Below.refl _ _⟩
  case round =>
    obtain ⟨k, hk, hi, hE, hB⟩ := hrel
    cases k with
    | zero =>
      have HE : Hid (paintF G n z x y = 0) := hE
      clear hE
      subst hi
      go_wp2
      go_ret
      exact ⟨ret_int HE.out.symm, hB⟩
    | succ m =>
      have em : (((m + 1 : Nat) : Int) - 1) = (m : Int) := by omega
      rw [em] at hi
      subst hi
      have HE : Hid (paintF G n z x y = paintF G (m + 1) z x y) := hE
      have HB : Hid (Below w.heap.size w wr) := hB
      have hlt : m < n := by omega
      have hOK := HOK.out m hlt
      have hGr := HG.out.below hB hbl
      obtain ⟨q, o, ea, hql, hpt⟩ := hGr.pts hlt hOK.n0
      have hf := (hGr m hlt).1
      rw [ea, Nat.zero_add] at hf
      have q0 := hf.1
      have sC : ∀ W, Below wr.heap.size wr W → Calls Tryz.prog 42 #[.pointer (some ⟨b, m * 7, none⟩), .int .i64 z, .int .i64 x, .int .i64 y] W fun e w' => e = .returned (.bool (covF z (centI z x) (centI z y) (G m))) ∧ Below W.heap.size W w' := fun W hW =>
        l4Simple_any b (m * 7) (G m).id (G m).la (G m).ki (G m).wi z x y q o (G m).n (G m).cap (G m).X (G m).Y (G m).lab (G m).pr W (hf.below hW (Nat.lt_of_lt_of_le hbl hB.size)) (hpt.below hW hql) (Nat.lt_of_lt_of_le hql hW.size) (by have := hOK.n12; omega) hOK.kn hOK.inw hOK.wid HPX.out
      have SC := (show Hid _ from sC)
      have hi1 : (m : Int) < (n : Int) := by omega
      have hi0 : (0 : Int) ≤ (m : Int) := by omega
      have hm1 : IntKind.i64.wrap ((m : Int) - 1) = (m : Int) - 1 := IntWalk.i64_in _ (by omega)
      clear hE hB hGr hf hpt sC
      cases hc : covF z (centI z x) (centI z y) (G m)
      · have HE2 : Hid (paintF G n z x y = paintF G m z x y) := by show _ = _; rw [HE.out, paintF_no hc]
        rw [hc] at SC
        clear hc q0
        go_wp2_with fail
        refine (SC.out _ (Below.refl _ _)).mono ?_
        rintro e w1 ⟨rfl, hb1⟩
        go_wp2_with fail
        exact ⟨⟨m, by omega, by first | rfl | rw [hm1], HE2.out, bl_then HB.out hb1⟩, by simp [intOf] <;> omega⟩
      · have HE2 : Hid (paintF G n z x y = (G m).id) := by show _ = _; rw [HE.out, paintF_yes hc]
        rw [hc] at SC
        clear hc
        have HQ0 : Hid (wr.cell? ⟨b, m * 7, none⟩ = some (.int .i64 (G m).id)) := q0
        clear q0
        go_wp2_with fail
        refine (SC.out _ (Below.refl _ _)).mono ?_
        rintro e w1 ⟨rfl, hb1⟩
        have q1 : w1.cell? ⟨b, m * 7, none⟩ = some (.int .i64 (G m).id) := (hb1.cell (p := ⟨b, m * 7, none⟩) (World.block_lt_of_cell? _ _ HQ0.out)).trans HQ0.out
        go_wp2
        go_ret
        exact ⟨ret_int HE2.out.symm, bl_then HB.out hb1⟩
/-- Four cells: a tile. -/
def TileA (w : World) (q : Nat) (z x y : Int) (v : Value) : Prop := w.cell? ⟨q, 0, none⟩ = some (.int .i64 z) ∧ w.cell? ⟨q, 1, none⟩ = some (.int .i64 x) ∧ w.cell? ⟨q, 2, none⟩ = some (.int .i64 y) ∧ w.cell? ⟨q, 3, none⟩ = some v
theorem TileA.below {w w' : World} {q B : Nat} {z x y : Int} {v : Value} (h : TileA w q z x y v) (hb : Below B w w') (hq : q < B) : TileA w' q z x y v :=
  ⟨(hb.cell (p := ⟨q, 0, none⟩) hq).trans h.1, (hb.cell (p := ⟨q, 1, none⟩) hq).trans h.2.1, (hb.cell (p := ⟨q, 2, none⟩) hq).trans h.2.2.1, (hb.cell (p := ⟨q, 3, none⟩) hq).trans h.2.2.2⟩
end Go.Proofs.YtchofahdcohibaaGreat
/- What a range over a list from its last on down needs. -/

namespace Go.Proofs.YtchofahdcohibaaGreat
open Go.RowKit Go.Shelf
attribute [local go_sem] Oper.semAt_some
set_option linter.unusedSimpArgs false
set_option linter.unusedVariables false
set_option maxRecDepth 100000

/-- What lies below T stays, and block Bs. -/
def KS (T Bs : Nat) (A B : World) : Prop := Below T A B ∧ B.heap[Bs]? = A.heap[Bs]?
theorem KS.refl (T Bs : Nat) (A : World) : KS T Bs A A := ⟨Below.refl _ _, rfl⟩
theorem KS.trans {T Bs : Nat} {A B C : World} (h : KS T Bs A B) (k : KS T Bs B C) : KS T Bs A C := ⟨h.1.trans k.1, k.2.trans h.2⟩
theorem KS.alloc {T Bs : Nat} {A B : World} (h : KS T Bs A B) (hT : T ≤ A.heap.size) (hB : Bs < A.heap.size) (o : Obj) : KS T Bs A (B.alloc o) := ⟨h.1.alloc (Nat.le_trans hT h.1.size) o, (Below.heap_alloc B o Bs (Nat.lt_of_lt_of_le hB h.1.size)).trans h.2⟩
theorem KS.cell {T Bs : Nat} {A B : World} (h : KS T Bs A B) {v : Value} (hc : A.cell? ⟨Bs, 0, none⟩ = some v) : B.cell? ⟨Bs, 0, none⟩ = some v := (World.cell?_of_block (w := A) (a := ⟨Bs, 0, none⟩) h.2).trans hc
theorem KS.put {T Bs : Nat} {w : World} (hT : T ≤ w.heap.size) (hB : Bs < w.heap.size) (W : World) (l : Nat) (o o' : Obj) (hl : w.heap.size ≤ l) (h1 : W.heap[l]? = some o) (h2 : o.isCells = false) (h3 : o.isWalk = false) : KS T Bs W (W.putObj l o') := ⟨belowK_b (w := w) hT W l o o' hl h1 h2 h3, by
  have := (belowK_b (w := w) (n₀ := Bs + 1) hB W l o o' hl h1 h2 h3).block Bs (Nat.lt_succ_self _)
  exact this⟩
theorem objS_keep {W W' : World} {row : Option Nat} {b : Nat} {arr : Array Value} {t : TypeId} {fz : Nat × Nat} (h : W.heap[b]? = some (.cells arr t fz)) (hg : W.grownBy W' row) (hr : ∀ r, row = some r → ∃ o : Obj, W.heap[r]? = some o ∧ o.isCells = false) : W'.heap[b]? = some (.cells arr t fz) := by
  rw [hg.block b (lt_of_heap h) (fun e => by
    obtain ⟨o, ho, hc⟩ := hr b e.symm
    rw [h] at ho
    cases ho
    cases hc)]
  exact h
theorem keepsS {W W' : World} (h : Below W.heap.size W W') : KeepsOthers W W' := ⟨h.size, fun k o hk _ => (h.block k (lt_of_heap hk)).trans hk⟩
/-- From the last on down. -/
def downN (n k : Nat) : List Nat := (List.range k).map fun j => n - 1 - j
theorem downN_succ (n k : Nat) : downN n (k + 1) = downN n k ++ [n - 1 - k] := by simp [downN, List.range_succ]
theorem downN_len (n k : Nat) : (downN n k).length = k := by simp [downN]
theorem downN_pre (n k m : Nat) (h : k ≤ m) : downN n k <+: downN n m := by
  obtain ⟨d, rfl⟩ : ∃ d, m = k + d := ⟨m - k, by omega⟩
  unfold downN
  rw [List.range_add, List.map_append]
  exact List.prefix_append _ _
theorem downN_of_pre {n : Nat} {l : List Nat} (h : l <+: downN n n) : l = downN n l.length ∧ l.length ≤ n := by
  have hl := h.length_le
  rw [downN_len] at hl
  have h1 := downN_pre n l.length n hl
  refine ⟨?_, hl⟩
  exact (List.prefix_of_prefix_length_le h h1 (by rw [downN_len]; exact Nat.le_refl _)).eq_of_length (by rw [downN_len])
/-- A place of a list of n. -/
abbrev Pl (n : Nat) := { i : Nat // i < n }
theorem paintI_none {C : Nat → Bool} {I : Nat → Int} : ∀ {n : Nat}, (∀ i, i < n → C i = false) → paintI C I n = 0
  | 0, _ => rfl
  | n + 1, h => by rw [paintI, h n (by omega), if_neg (by simp)]; exact paintI_none fun i hi => h i (by omega)
theorem paintI_some {C : Nat → Bool} {I : Nat → Int} : ∀ {n i : Nat}, i < n → C i = true → (∀ j, i < j → j < n → C j = false) → paintI C I n = I i
  | n + 1, i, hi, h, hn => by
    rw [paintI]
    by_cases e : i = n
    · subst e; rw [h, if_pos rfl]
    · rw [hn n (by omega) (by omega), if_neg (by simp)]
      exact paintI_some (by omega) h fun j h1 h2 => hn j h1 (by omega)
theorem front_done {C : Nat → Bool} {I : Nat → Int} {n : Nat} {ys : List (Pl n)} (h : ys.map (·.1) = downN n n) (ha : ∀ x ∈ ys, C x.1 = false) : paintI C I n = 0 := by
  refine paintI_none fun i hi => ?_
  have hm : i ∈ ys.map (·.1) := by
    rw [h]
    unfold downN
    exact List.mem_map.2 ⟨n - 1 - i, List.mem_range.2 (by omega), by omega⟩
  obtain ⟨x, hx, rfl⟩ := List.mem_map.1 hm
  exact ha x hx
theorem front_stop {C : Nat → Bool} {I : Nat → Int} {n : Nat} {p : List (Pl n)} {x : Pl n} (h : (p ++ [x]).map (·.1) <+: downN n n) (ha : ∀ y ∈ p, C y.1 = false) (hx : C x.1 = true) : paintI C I n = I x.1 := by
  obtain ⟨h1, h2⟩ := downN_of_pre h
  have hl : ((p ++ [x]).map (·.1)).length = p.length + 1 := by simp
  rw [hl] at h1 h2
  rw [downN_succ, List.map_append] at h1
  have e1 : p.map (·.1) = downN n p.length := by
    have := List.append_inj_left h1 (by rw [downN_len]; simp)
    exact this
  have e2 : x.1 = n - 1 - p.length := by
    have := List.append_inj_right h1 (by rw [downN_len]; simp)
    simpa using this
  refine paintI_some x.2 hx fun j h3 h4 => ?_
  have hm : j ∈ p.map (·.1) := by
    rw [e1]
    unfold downN
    exact List.mem_map.2 ⟨n - 1 - j, List.mem_range.2 (by omega), by omega⟩
  obtain ⟨y, hy, rfl⟩ := List.mem_map.1 hm
  exact ha y hy
end Go.Proofs.YtchofahdcohibaaGreat
/- Features, told from the last on down: the program. -/

namespace Go.Proofs.YtchofahdcohibaaGreat
open Go.RowKit Go.Shelf
attribute [local go_sem] Oper.semAt_some
set_option linter.unusedSimpArgs false
set_option linter.unusedVariables false
set_option maxRecDepth 100000

abbrev ftV (f : Feat) : Value := .agg #[.int .i64 f.id, .int .i64 f.la, .int .i64 f.ki, .int .i64 f.wi, .slice f.a f.n f.cap, .string f.lab, .int .i64 f.pr]
/-- The points of a feature are there, below T. -/
def FtP (w : World) (T : Nat) (f : Feat) : Prop := ∃ q o, f.a = some ⟨q, o, none⟩ ∧ q < T ∧ PtsAt w q o f.n f.X f.Y
theorem FtP.below {w w' : World} {T : Nat} {f : Feat} (h : FtP w T f) (hb : Below T w w') : FtP w' T f := by
  obtain ⟨q, o, e, hl, hp⟩ := h
  exact ⟨q, o, e, hl, hp.below hb hl⟩
def FtsAt (w : World) (T p n : Nat) (F : Nat → Feat) : Prop := p < T ∧ ∀ i, i < n → FeatAt w p (i * 7) (F i).id (F i).la (F i).ki (F i).wi (.slice (F i).a (F i).n (F i).cap) (F i).lab (F i).pr ∧ FtP w T (F i)
theorem FtsAt.below {w w' : World} {T p n : Nat} {F : Nat → Feat} (h : FtsAt w T p n F) (hb : Below T w w') : FtsAt w' T p n F := ⟨h.1, fun i hi => ⟨(h.2 i hi).1.below hb h.1, (h.2 i hi).2.below hb⟩⟩
def SrcF (T : Nat) (w : World) (v : Value) (n : Nat) (F : Nat → Feat) : Prop := ((∃ a cap, v = .slice a 0 cap) ∧ n = 0) ∨ ∃ p cap, v = .slice (some ⟨p, 0, none⟩) n cap ∧ FtsAt w T p n F
theorem SrcF.below {T : Nat} {w w' : World} {v : Value} {n : Nat} {F : Nat → Feat} (h : SrcF T w v n F) (hb : Below T w w') : SrcF T w' v n F := by
  rcases h with h | ⟨p, cap, e, hs⟩
  · exact .inl h
  · exact .inr ⟨p, cap, e, hs.below hb⟩
abbrev encF (F : Nat → Feat) (i : Nat) : Array Value := #[.int .i64 (i : Int), ftV (F i)]
set_option maxHeartbeats 4000000 in
theorem backF1_in (l Bs T p n cap : Nat) (S : Nat → Feat) (hn : n ≤ 1048576) (J Jx : List (Pl n) → World → Prop) (W : World)
    (hY : ∀ pre (x : Pl n) W1, J pre W1 → pre.length < n → YieldAt Fence.wide 2 Tryz.prog l (encF S x.1) W1 fun e W' => (e = .returned (.bool true) ∧ J (pre ++ [x]) W' ∧ KS T Bs W1 W') ∨ (e = .returned (.bool false) ∧ Jx (pre ++ [x]) W'))
    (hc : W.cell? ⟨Bs, 0, none⟩ = some (.slice (some ⟨p, 0, none⟩) n cap)) (hS : FtsAt W T p n S) (h0 : J [] W) :
    CallsIn Fence.wide 3 Tryz.prog 38 #[.func (.yield l) #[] #[], .pointer (some ⟨Bs, 0, none⟩)] W fun e W' => (∃ v, e = .returned v) ∧ ((∃ ys, ys.map (·.1) = downN n n ∧ J ys W') ∨ (∃ pre, pre.map (·.1) <+: downN n n ∧ Jx pre W')) := by
  refine callsIn_of_wp Tryz.func38 rfl trivial ?_ rfl
  simp only [Tryz.ntmps38, List.size_toArray, List.length_cons, List.length_nil, Nat.reduceAdd, Nat.reduceSub, Array.replicate_succ, Array.replicate_zero, List.push_toArray, List.append_toArray, List.nil_append, List.cons_append]
  have hn0 : IntKind.i64.wrap ((n : Int) - 1) = (n : Int) - 1 := IntWalk.i64_in _ (by omega)
  gi_wp2
  gi_loopw [3] (fun i wr => ∃ (k : Nat) (s : List (Pl n)), k ≤ n ∧ i = .int .i64 ((n : Int) - 1 - (k : Int)) ∧ s.map (·.1) = downN n k ∧ J s wr ∧ KS T Bs W wr) (fun i _ => (intOf i + 1).toNat)
  case atStart => exact ⟨0, [], Nat.zero_le _, by simp [hn0], rfl, h0, KS.refl _ _ _⟩
  case round =>
    obtain ⟨k, s, hk, hi, hs, hJs, hB⟩ := hrel
    have hcr := hB.cell hc
    by_cases hlt : k < n
    · obtain ⟨m, hm⟩ : ∃ m : Nat, m = n - 1 - k := ⟨_, rfl⟩
      have em : (n : Int) - 1 - (k : Int) = (m : Int) := by omega
      rw [em] at hi
      subst hi
      have hmn : m < n := by omega
      obtain ⟨⟨q0, q1, q2, q3, q4, q5, q6⟩, hP⟩ := (hS.below hB.1).2 m hmn
      have hsl : s.length = k := by have := congrArg List.length hs; rw [downN_len] at this; simpa using this
      obtain ⟨fn, tmps, assign, body, hy, hR⟩ := hY s ⟨m, hmn⟩ wr hJs (by omega)
      have hi1 : (m : Int) < (n : Int) := by omega
      have hi0 : (0 : Int) ≤ (m : Int) := by omega
      have hm1 : IntKind.i64.wrap ((m : Int) - 1) = (m : Int) - 1 := IntWalk.i64_in _ (by omega)
      have HS : Hid ((s ++ [(⟨m, hmn⟩ : Pl n)]).map (fun x : Pl n => x.1) = downN n (k + 1)) := by show _ = _; rw [downN_succ, ← hm]; simp [hs]
      have HM : Hid (m = n - 1 - k) := hm
      clear hm em
      gi_wp2
      refine hR.mono ?_
      rintro e W3 (⟨rfl, hJ3, hk3⟩ | ⟨rfl, hJx3⟩)
      · gi_wp2
        go_roundw
        case rel => exact ⟨k + 1, s ++ [⟨m, hmn⟩], by omega, by have := HM.out; first | (rw [hm1]; congr 1; omega) | (congr 1; omega), HS.out, hJ3, hB.trans hk3⟩
        case measure => have := HM.out; simp [intOf] <;> omega
      · gi_wp2
        refine bodyPost_ret (results_none rfl _ _ _) rfl ?_
        exact ⟨⟨_, rfl⟩, .inr ⟨_, by rw [HS.out]; exact downN_pre _ _ _ (by omega), hJx3⟩⟩
    · obtain rfl : k = n := by omega
      have em : (k : Int) - 1 - (k : Int) = -1 := by omega
      rw [em] at hi
      subst hi
      gi_wp2
      go_end0
      exact ⟨⟨_, rfl⟩, .inl ⟨s, hs, hJs⟩⟩
set_option maxHeartbeats 1000000 in
theorem backF1_nil (l Bs : Nat) (a : Option Addr) (cap : Nat) (W : World) (hBs : W.cell? ⟨Bs, 0, none⟩ = some (.slice a 0 cap)) :
    CallsIn Fence.wide 3 Tryz.prog 38 #[.func (.yield l) #[] #[], .pointer (some ⟨Bs, 0, none⟩)] W fun e W' => (∃ v, e = .returned v) ∧ W = W' := by
  refine callsIn_of_wp Tryz.func38 rfl trivial ?_ rfl
  simp only [Tryz.ntmps38, List.size_toArray, List.length_cons, List.length_nil, Nat.reduceAdd, Nat.reduceSub, Array.replicate_succ, Array.replicate_zero, List.push_toArray, List.append_toArray, List.nil_append, List.cons_append]
  gi_wp2
  gi_loopw [3] (fun i wr => i = .int .i64 (-1) ∧ W = wr) (fun _ _ => 0)
  case atStart => exact ⟨by first | rfl | (congr 1; decide), rfl⟩
  case round =>
    obtain ⟨rfl, rfl⟩ := hrel
    gi_wp2
    go_end0
    exact ⟨⟨_, rfl⟩, rfl⟩
theorem backF_stops (Bs T n : Nat) (v : Value) (S : Nat → Feat) (hn : n ≤ 1048576) (w : World) (hBs : Bs < w.heap.size) (hT : T ≤ w.heap.size) (hc : w.cell? ⟨Bs, 0, none⟩ = some v) (hS : SrcF T w v n S) :
    SeqStopsK Fence.wide 3 Tryz.prog 38 #[.pointer (some ⟨Bs, 0, none⟩)] (fun x : Pl n => encF S x.1) (KS T Bs) (fun ys => ys.map (·.1) = downN n n) (fun pre => pre.map (·.1) <+: downN n n) n w := fun l J Jx W hW hJ hJx hY h0 => by
  have hc' := (hW.cell (p := ⟨Bs, 0, none⟩) hBs).trans hc
  rcases hS.below (hW.mono hT) with ⟨⟨a, cap, rfl⟩, rfl⟩ | ⟨p, cap, rfl, hs⟩
  · exact (backF1_nil l Bs a cap W hc').mono fun e W' ⟨he, hw⟩ => ⟨he, .inl ⟨[], rfl, hw ▸ h0⟩⟩
  · exact backF1_in l Bs T p n cap S hn J Jx W hY hc' hs h0
theorem backwardF_any (a : Option Addr) (n cap : Nat) (w : World) : Calls Tryz.prog 16 #[.slice a n cap] w fun e w' => e = .returned (.func (.func 38) #[] #[.pointer (some ⟨w.heap.size, 0, none⟩)]) ∧ w' = w.alloc (.cells #[.slice a n cap] 24) := by
  go_enter Tryz.func16, Tryz.ntmps16
  go_wp2
  go_ret
  exact ⟨rfl, rfl⟩
end Go.Proofs.YtchofahdcohibaaGreat
/- The model's sort of features. -/

namespace Go.Proofs.YtchofahdcohibaaGreat
open Go.RowKit
set_option linter.unusedSimpArgs false
set_option linter.unusedVariables false
set_option maxRecDepth 100000

end Go.Proofs.YtchofahdcohibaaGreat
