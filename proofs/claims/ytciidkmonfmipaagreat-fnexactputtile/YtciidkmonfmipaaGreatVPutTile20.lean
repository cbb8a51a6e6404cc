/- Several texts in one. -/
import Derived.Test.YtciidkmonfmipaaGreatVPutTile14
import Derived.Test.YtciidkmonfmipaaGreatVPutTile19
import Derived.Test.YtciidkmonfmipaaGreatVPutTile18
import Derived.Test.YtciidkmonfmipaaGreatVPutTile15

/- Tiles that come in: measured, copied, compared. -/

namespace Go.Proofs.YtciidkmonfmipaaGreat
open Go.RowKit
set_option linter.unusedSimpArgs false
set_option linter.unusedVariables false
set_option maxRecDepth 100000

abbrev tileV (z x y : Int) (v : Value) : Value := .agg #[.int .i64 z, .int .i64 x, .int .i64 y, v]
theorem OwnFs.midB {w w' : World} {B C b n lo hi : Nat} {F G : Nat → Feat} (h : OwnFs w B b n F G) (hM : MidB lo hi w w') (hh : hi ≤ B) (hC : C ≤ B) : OwnFs w' C b n F G := by
  obtain ⟨h1, h2, h3, h4⟩ := h
  have hc : ∀ (p o : Nat) (u : Value), B ≤ p → w.cell? ⟨p, o, none⟩ = some u → w'.cell? ⟨p, o, none⟩ = some u := fun p o u hp e => hM.cell e (.inr (by omega))
  refine ⟨by omega, Nat.lt_of_lt_of_le h2 hM.size, fun i hi => ?_, fun i hi => ?_⟩
  · obtain ⟨⟨k0, k1, k2, k3, k4, k5, k6⟩, _⟩ := h3 i hi
    obtain ⟨_, q, ha, hcap, hq, hBq, hql, hp⟩ := h4 i hi
    refine ⟨⟨hc _ _ _ h1 k0, hc _ _ _ h1 k1, hc _ _ _ h1 k2, hc _ _ _ h1 k3, hc _ _ _ h1 k4, hc _ _ _ h1 k5, hc _ _ _ h1 k6⟩, ?_⟩
    exact .inr ⟨q, 0, ha, Nat.lt_of_lt_of_le hql hM.size, fun j hj => ⟨hc _ _ _ hBq (hp j hj).1, hc _ _ _ hBq (hp j hj).2⟩⟩
  · obtain ⟨hs, q, ha, hcap, hq, hBq, hql, hp⟩ := h4 i hi
    exact ⟨hs, q, ha, hcap, hq, by omega, Nat.lt_of_lt_of_le hql hM.size, fun j hj => ⟨hc _ _ _ hBq (hp j hj).1, hc _ _ _ hBq (hp j hj).2⟩⟩
theorem set3_atj {W : World} {r : Nat} {a b c x0 x1 x2 : Value} (h0 : W.cell? ⟨r, 0, none⟩ = some x0) (h1 : W.cell? ⟨r, 1, none⟩ = some x1) (h2 : W.cell? ⟨r, 2, none⟩ = some x2) :
    (((W.setCell ⟨r, 0, none⟩ a).setCell ⟨r, 1, none⟩ b).setCell ⟨r, 2, none⟩ c).cell? ⟨r, 0, none⟩ = some a ∧
    (((W.setCell ⟨r, 0, none⟩ a).setCell ⟨r, 1, none⟩ b).setCell ⟨r, 2, none⟩ c).cell? ⟨r, 1, none⟩ = some b ∧
    (((W.setCell ⟨r, 0, none⟩ a).setCell ⟨r, 1, none⟩ b).setCell ⟨r, 2, none⟩ c).cell? ⟨r, 2, none⟩ = some c := by
  have ne : ∀ i j : Nat, i ≠ j → (⟨r, i, none⟩ : Addr) ≠ ⟨r, j, none⟩ := fun i j hij h => hij (by injection h)
  refine ⟨?_, ?_, ?_⟩
  · rw [set1_other (ne 2 0 (by omega)), set1_other (ne 1 0 (by omega))]; exact set1_same h0
  · rw [set1_other (ne 2 1 (by omega))]; exact set1_same (by rw [set1_other (ne 0 1 (by omega))]; exact h1)
  · exact set1_same (by rw [set1_other (ne 1 2 (by omega)), set1_other (ne 0 2 (by omega))]; exact h2)
theorem There.otherJ {W : World} {r r' n o : Nat} {v : Value} (h : There W r n) (hr : r' ≠ r) : There (W.setCell ⟨r', o, none⟩ v) r n := fun o' ho => by
  obtain ⟨⟨u, hu⟩, hf⟩ := h o' ho
  exact ⟨⟨u, by rw [set1_other (fun e => hr (by injection e))]; exact hu⟩, by rw [World.frozen?_setCell]; exact hf⟩
theorem resTT (T : Array Value) (Wf : World) (r : Nat) (v0 v1 v2 v3 : Value) (hT : T[2]?.getD undef = .pointer (some ⟨r, 0, none⟩)) (h0 : Wf.cell? ⟨r, 0, none⟩ = some v0) (h1 : Wf.cell? ⟨r, 1, none⟩ = some v1) (h2 : Wf.cell? ⟨r, 2, none⟩ = some v2) (h3 : Wf.cell? ⟨r, 3, none⟩ = some v3) :
    (results Tryz.f10 T).run Tryz.prog Wf = .ok (.agg #[v0, v1, v2, v3]) Wf := by
  simp [results, Tryz.results10, go_sem, hT, h0, h1, h2, h3]
set_option maxHeartbeats 4000000 in
theorem eqTile_any (z x y : Int) (b d n B C : Nat) (F G H : Nat → Feat) (w : World) (hg : OwnFs w B b n F G) (hh : OwnFs w C d n F H) (hs : SmallFs n F) :
    Calls Tryz.prog 14 #[tileV z x y (.slice (some ⟨b, 0, none⟩) n n), tileV z x y (.slice (some ⟨d, 0, none⟩) n n)] w fun e w' => e = .returned (.bool true) ∧ Below w.heap.size w w' := by
  have HG : Hid (OwnFs w B b n F G) := hg
  have HH : Hid (OwnFs w C d n F H) := hh
  have HS : Hid (SmallFs n F) := hs
  clear hg hh hs
  go_enter Tryz.func14, Tryz.ntmps14
  go_wp2_with fail
  generalize hW : ((w.alloc _).alloc _ : World) = W
  have hB0 : Below w.heap.size w W := by subst hW; (repeat (first | exact Below.refl _ _ | assumption | refine Below.drew ?_ | refine bl_alloc ?_ _ | refine bl_then ?_ (by assumption) | refine Below.setCell ?_ (by first | omega | (simp; done) | (simp; omega)) _ | refine bl_store ?_ ?_ _ _))
  have c3 : W.cell? ⟨w.heap.size, 3, none⟩ = some (.slice (some ⟨b, 0, none⟩) n n) := by subst hW; simp [go_sem]
  have d3 : W.cell? ⟨w.heap.size + 1, 3, none⟩ = some (.slice (some ⟨d, 0, none⟩) n n) := by subst hW; simp [go_sem]
  clear hW
  refine (eqRef_any _ _ _ _).mono ?_
  rintro e w1 ⟨rfl, hb1⟩
  have c3' := bl_cell hb1 c3
  have d3' := bl_cell hb1 d3
  have hB1 := bl_then hB0 hb1
  clear c3 d3 hb1 hB0
  go_wp2_with fail
  refine (eqFeatureS_any b d n B C F G H _ (HG.out.below hB1) (HH.out.below hB1) HS.out).mono ?_
  rintro e w2 ⟨rfl, hb2⟩
  go_wp2
  go_ret
  exact ⟨rfl, by (repeat (first | exact Below.refl _ _ | assumption | refine Below.drew ?_ | refine bl_alloc ?_ _ | refine bl_then ?_ (by assumption) | refine Below.setCell ?_ (by first | omega | (simp; done) | (simp; omega)) _ | refine bl_store ?_ ?_ _ _))⟩
end Go.Proofs.YtciidkmonfmipaaGreat
/- Numbers are copied; how a list of numbers that came in is read. -/

namespace Go.Proofs.YtciidkmonfmipaaGreat
open Go.RowKit
set_option linter.unusedSimpArgs false
set_option linter.unusedVariables false
set_option maxRecDepth 100000

theorem make_n64 (n : Nat) (h : n ≤ 1048576) (w : World) :
    (Instr.makeSlice 66 (.int .i64 (n : Int)) (.int .i64 (n : Int))).run Tryz.prog w = .ok (.slice (some ⟨w.heap.size, 0, none⟩) n n) (w.alloc (.cells (madeCells #[.int .i64 0] n) 2)) := by
  obtain ⟨i, hi, hz, hs, hb⟩ := info_parts info_n64
  have hr := run_make (P := Tryz.prog) w 66 2 i _ Tryz.underlying66 hi hz .i64 .i64 (n : Int) (n : Int) (by omega) (Int.le_refl _) (by rw [hb]; omega) (by omega)
  simp only [Int.toNat_natCast, hs, Nat.mul_one] at hr
  exact hr
theorem there_madeN (n : Nat) (w : World) (t : TypeId) : There (w.alloc (.cells (madeCells #[.int .i64 0] n) t)) w.heap.size n := fun o ho => by
  have hz := size_madeCells #[.int .i64 0] n
  refine ⟨⟨(madeCells #[.int .i64 0] n)[o]'(by rw [hz]; exact ho), ?_⟩, World.frozen?_alloc_at _ _ _ _ rfl⟩
  rw [World.cell?_alloc_at _ _ _ _ rfl]
  exact Array.getElem?_eq_getElem _

set_option maxHeartbeats 1000000 in
theorem toInt64S_own (a : Option Addr) (n cap : Nat) (Z : Nat → Int) (w : World) (hp : IsNs w a n Z) (hmax : n ≤ 1048576) :
    Calls Tryz.prog 86 #[.slice a n cap] w fun e w' => ∃ b, e = .returned (.slice (some ⟨b, 0, none⟩) n n) ∧ w.heap.size ≤ b ∧ b < w'.heap.size ∧ NsAt w' b 0 n Z ∧ There w' b n ∧ Below w.heap.size w w' := by
  have hmk := make_n64 n hmax
  have HP : Hid (IsNs w a n Z) := hp
  clear hp
  go_enter Tryz.func86, Tryz.ntmps86
  go_wp2
  generalize hW : (w.alloc _ : World) = W
  have HB0 : Hid (Below w.heap.size w W) := by show Below _ _ _; subst hW; (repeat (first | exact Below.refl _ _ | assumption | refine Below.drew ?_ | refine bl_alloc ?_ _ | refine bl_then ?_ (by assumption) | refine Below.setCell ?_ (by first | omega | (simp; done) | (simp; omega)) _ | refine bl_store ?_ ?_ _ _))
  have HT0 : Hid (There W w.heap.size n) := by show There _ _ _; subst hW; exact there_madeN _ _ _
  have HL0 : Hid (w.heap.size < W.heap.size) := by show _ < _; subst hW; simp
  clear hW hmk
  go_loopw [4] (fun i wr => ∃ k : Nat, k ≤ n ∧ i = .int .i64 k ∧ Below w.heap.size w wr ∧ There wr w.heap.size n ∧ NsAt wr w.heap.size 0 k Z ∧ w.heap.size < wr.heap.size) (fun i _ => n - (intOf i).toNat)
  case atStart => exact ⟨0, by omega, rfl, HB0.out, HT0.out, fun i hi => by omega, HL0.out⟩
  case round =>
    obtain ⟨k, hk, rfl, hB, hT, hPt, hlw⟩ := hrel
    by_cases hlt : k < n
    · rcases HP.out with h0 | ⟨b, off, rfl, hbl, hpt⟩
      · omega
      · have hx : wr.cell? ⟨b, off + k, none⟩ = some (.int .i64 (Z k)) := (hB.cell (p := ⟨b, off + k, none⟩) hbl).trans (hpt k hlt)
        have HB : Hid (Below w.heap.size w wr) := hB
        have HT : Hid (There wr w.heap.size n) := hT
        have HQ : Hid (NsAt wr w.heap.size 0 k Z) := hPt
        have t0 := hT.cell k hlt
        have f0 := (hT k hlt).2
        clear hB hT hPt hpt
        have hi : (k : Int) < (n : Int) := by omega
        have hi0 : (0 : Int) ≤ (k : Int) := by omega
        go_wp2
        go_roundw
        case rel =>
          refine ⟨k + 1, by omega, by go_num, ?_, HT.out.setN _ _, fillN HT.out hlt HQ.out, ?_⟩
          · have HB' := HB.out
            (repeat (first | exact Below.refl _ _ | assumption | refine Below.drew ?_ | refine bl_alloc ?_ _ | refine bl_then ?_ (by assumption) | refine Below.setCell ?_ (by first | omega | (simp; done) | (simp; omega)) _ | refine bl_store ?_ ?_ _ _))
          · simp; omega
        case measure => simp [intOf]; omega
    · go_wp2
      go_ret
      have hkn : k = n := by omega
      subst hkn
      exact ⟨_, rfl, Nat.le_refl _, hlw, hPt, hT, hB⟩
end Go.Proofs.YtciidkmonfmipaaGreat
/- Tiles that are kept, with their rasters: how lists of them lie in memory; they are copied and compared. -/

namespace Go.Proofs.YtciidkmonfmipaaGreat
open Go.RowKit
set_option linter.unusedSimpArgs false
set_option linter.unusedVariables false
set_option maxRecDepth 100000

/-- A tile that is kept: its ref, its features, its Ids. -/
structure Kp where
  z : Int
  x : Int
  y : Int
  fa : Option Addr
  fn : Nat
  fc : Nat
  F : Nat → Feat
  ia : Option Addr
  m : Nat
  ic : Nat
  I : Nat → Int
abbrev kpV (k : Kp) : Value := .agg #[.int .i64 k.z, .int .i64 k.x, .int .i64 k.y, .slice k.fa k.fn k.fc, .slice k.ia k.m k.ic]
/-- The five cells of one. -/
def KpAt (w : World) (p o : Nat) (k : Kp) : Prop := w.cell? ⟨p, o, none⟩ = some (.int .i64 k.z) ∧ w.cell? ⟨p, o + 1, none⟩ = some (.int .i64 k.x) ∧ w.cell? ⟨p, o + 2, none⟩ = some (.int .i64 k.y) ∧ w.cell? ⟨p, o + 3, none⟩ = some (.slice k.fa k.fn k.fc) ∧ w.cell? ⟨p, o + 4, none⟩ = some (.slice k.ia k.m k.ic)
theorem KpAt.below {w w' : World} {p o B : Nat} {k : Kp} (h : KpAt w p o k) (hb : Below B w w') (hp : p < B) : KpAt w' p o k := by
  obtain ⟨h0, h1, h2, h3, h4⟩ := h
  exact ⟨(hb.cell (p := ⟨p, o, none⟩) hp).trans h0, (hb.cell (p := ⟨p, o + 1, none⟩) hp).trans h1, (hb.cell (p := ⟨p, o + 2, none⟩) hp).trans h2, (hb.cell (p := ⟨p, o + 3, none⟩) hp).trans h3, (hb.cell (p := ⟨p, o + 4, none⟩) hp).trans h4⟩
/-- What it names may be read. -/
def KpIs (w : World) (k : Kp) : Prop := IsFs w k.fa k.fn k.F ∧ IsNs w k.ia k.m k.I
theorem KpIs.below {w w' : World} {k : Kp} (h : KpIs w k) (hb : Below w.heap.size w w') : KpIs w' k := ⟨h.1.below hb, h.2.below hb⟩
def KsAt (w : World) (b off n : Nat) (K : Nat → Kp) : Prop := ∀ i, i < n → KpAt w b (off + i * 5) (K i) ∧ KpIs w (K i)
theorem KsAt.below {w w' : World} {b off n : Nat} {K : Nat → Kp} (h : KsAt w b off n K) (hb : Below w.heap.size w w') (hl : b < w.heap.size) : KsAt w' b off n K := fun i hi => ⟨(h i hi).1.below hb hl, (h i hi).2.below hb⟩
def IsKs (w : World) (a : Option Addr) (n : Nat) (K : Nat → Kp) : Prop := n = 0 ∨ ∃ b off, a = some ⟨b, off, none⟩ ∧ b < w.heap.size ∧ KsAt w b off n K
theorem IsKs.below {w w' : World} {a : Option Addr} {n : Nat} {K : Nat → Kp} (h : IsKs w a n K) (hb : Below w.heap.size w w') : IsKs w' a n K := by
  rcases h with h | ⟨b, off, e, hl, hp⟩
  · exact .inl h
  · exact .inr ⟨b, off, e, Nat.lt_of_lt_of_le hl hb.size, hp.below hb hl⟩
/-- All within bounds. -/
def SmallK (k : Kp) : Prop := SmallFs k.fn k.F ∧ k.m ≤ 1048576
def SmallKs (n : Nat) (K : Nat → Kp) : Prop := n ≤ 1048576 ∧ ∀ i, i < n → SmallK (K i)
/-- What came in. -/
def CameK (k : Kp) : Prop := CameFs k.fn k.F ∧ k.m ≤ maxLen
def CameKs (n : Nat) (K : Nat → Kp) : Prop := n ≤ maxLen ∧ ∀ i, i < n → CameK (K i)
/-- A copy of one: its features and its Ids in blocks from B on. -/
def KpOwn (w : World) (B : Nat) (k a : Kp) : Prop :=
  (a.z = k.z ∧ a.x = k.x ∧ a.y = k.y) ∧ (∃ fb, a.fa = some ⟨fb, 0, none⟩ ∧ a.fn = k.fn ∧ a.fc = k.fn ∧ OwnFs w B fb k.fn k.F a.F) ∧
  ∃ ib, a.ia = some ⟨ib, 0, none⟩ ∧ a.m = k.m ∧ a.ic = k.m ∧ a.I = k.I ∧ B ≤ ib ∧ ib < w.heap.size ∧ NsAt w ib 0 k.m k.I
theorem KpOwn.below {w w' : World} {B : Nat} {k a : Kp} (h : KpOwn w B k a) (hb : Below w.heap.size w w') : KpOwn w' B k a := by
  obtain ⟨h1, ⟨fb, e1, e2, e3, h2⟩, ib, e4, e5, e6, e7, h3, h4, h5⟩ := h
  exact ⟨h1, ⟨fb, e1, e2, e3, h2.below hb⟩, ib, e4, e5, e6, e7, h3, Nat.lt_of_lt_of_le h4 hb.size, h5.below hb h4⟩
theorem KpOwn.mid {w w' : World} {B C lo hi : Nat} {k a : Kp} (h : KpOwn w B k a) (hM : MidB lo hi w w') (hh : hi ≤ B) (hC : C ≤ B) : KpOwn w' C k a := by
  obtain ⟨h1, ⟨fb, e1, e2, e3, h2⟩, ib, e4, e5, e6, e7, h3, h4, h5⟩ := h
  exact ⟨h1, ⟨fb, e1, e2, e3, h2.midB hM hh hC⟩, ib, e4, e5, e6, e7, by omega, Nat.lt_of_lt_of_le h4 hM.size, fun i hi => hM.cell (h5 i hi) (.inr (by omega))⟩
theorem KpOwn.is {w : World} {B : Nat} {k a : Kp} (h : KpOwn w B k a) : KpIs w a := by
  obtain ⟨_, ⟨fb, e1, e2, e3, h2⟩, ib, e4, e5, e6, e7, h3, h4, h5⟩ := h
  refine ⟨.inr ⟨fb, 0, e1, h2.2.1, ?_⟩, .inr ⟨ib, 0, e4, h4, ?_⟩⟩
  · rw [e2]; exact h2.2.2.1
  · rw [e5, e7]; exact h5
/-- A list of copies: block b below B, what they name from B on. -/
def OwnKs (w : World) (B b n : Nat) (K A : Nat → Kp) : Prop := b < B ∧ b < w.heap.size ∧ ∀ i, i < n → KpAt w b (i * 5) (A i) ∧ KpOwn w B (K i) (A i)
theorem OwnKs.below {w w' : World} {B b n : Nat} {K A : Nat → Kp} (h : OwnKs w B b n K A) (hb : Below w.heap.size w w') : OwnKs w' B b n K A :=
  ⟨h.1, Nat.lt_of_lt_of_le h.2.1 hb.size, fun i hi => ⟨(h.2.2 i hi).1.below hb h.2.1, (h.2.2 i hi).2.below hb⟩⟩
/-- Five stores: one is laid. -/
def layK (W : World) (B o : Nat) (k : Kp) : World := (((((W.setCell ⟨B, o, none⟩ (.int .i64 k.z)).setCell ⟨B, o + 1, none⟩ (.int .i64 k.x)).setCell ⟨B, o + 2, none⟩ (.int .i64 k.y)).setCell ⟨B, o + 3, none⟩ (.slice k.fa k.fn k.fc)).setCell ⟨B, o + 4, none⟩ (.slice k.ia k.m k.ic))
theorem layK_mid (W : World) (B o : Nat) (k : Kp) : MidB B (B + 1) W (layK W B o k) :=
  (((((MidB.refl B (B + 1) W).set (Nat.le_refl _) (Nat.lt_succ_self _) _ _).set (Nat.le_refl _) (Nat.lt_succ_self _) _ _).set (Nat.le_refl _) (Nat.lt_succ_self _) _ _).set (Nat.le_refl _) (Nat.lt_succ_self _) _ _).set (Nat.le_refl _) (Nat.lt_succ_self _) _ _
theorem layK_there {W : World} {B o m : Nat} {k : Kp} (h : There W B m) : There (layK W B o k) B m := by
  unfold layK
  exact (((((h.set _ _).set _ _).set _ _).set _ _).set _ _)
theorem layK_size (W : World) (B o : Nat) (k : Kp) : (layK W B o k).heap.size = W.heap.size := by unfold layK; simp
theorem layK_other {W : World} {B o : Nat} {k : Kp} {p : Addr} (h : p.block ≠ B ∨ p.off < o ∨ o + 4 < p.off) : (layK W B o k).cell? p = W.cell? p := by
  have ne : ∀ k : Nat, k ≤ 4 → (⟨B, o + k, none⟩ : Addr) ≠ p := fun k hk e => by subst e; simp at h; omega
  have ne0 : (⟨B, o, none⟩ : Addr) ≠ p := ne 0 (by omega)
  unfold layK
  rw [set1_other (ne 4 (by omega)), set1_other (ne 3 (by omega)), set1_other (ne 2 (by omega)), set1_other (ne 1 (by omega)), set1_other ne0]
theorem layK_at {W : World} {B o m : Nat} {k : Kp} (h : There W B m) (ho : o + 4 < m) : KpAt (layK W B o k) B o k := by
  have ne : ∀ i j : Nat, i ≠ j → (⟨B, i, none⟩ : Addr) ≠ ⟨B, j, none⟩ := fun i j hij h => hij (by injection h)
  obtain ⟨u0, g0⟩ := (h (o) (by omega)).1
  obtain ⟨u1, g1⟩ := ((h.set (o) (.int .i64 k.z)) (o + 1) (by omega)).1
  obtain ⟨u2, g2⟩ := (((h.set (o) (.int .i64 k.z)).set (o + 1) (.int .i64 k.x)) (o + 2) (by omega)).1
  obtain ⟨u3, g3⟩ := ((((h.set (o) (.int .i64 k.z)).set (o + 1) (.int .i64 k.x)).set (o + 2) (.int .i64 k.y)) (o + 3) (by omega)).1
  obtain ⟨u4, g4⟩ := (((((h.set (o) (.int .i64 k.z)).set (o + 1) (.int .i64 k.x)).set (o + 2) (.int .i64 k.y)).set (o + 3) (.slice k.fa k.fn k.fc)) (o + 4) (by omega)).1
  unfold layK
  refine ⟨?_, ?_, ?_, ?_, ?_⟩
  · rw [set1_other (ne (o + 4) (o) (by omega)), set1_other (ne (o + 3) (o) (by omega)), set1_other (ne (o + 2) (o) (by omega)), set1_other (ne (o + 1) (o) (by omega))]; exact set1_same g0
  · rw [set1_other (ne (o + 4) (o + 1) (by omega)), set1_other (ne (o + 3) (o + 1) (by omega)), set1_other (ne (o + 2) (o + 1) (by omega))]; exact set1_same g1
  · rw [set1_other (ne (o + 4) (o + 2) (by omega)), set1_other (ne (o + 3) (o + 2) (by omega))]; exact set1_same g2
  · rw [set1_other (ne (o + 4) (o + 3) (by omega))]; exact set1_same g3
  · exact set1_same g4
abbrev zeroKp : Array Value := #[.int .i64 0, .int .i64 0, .int .i64 0, .slice none 0 0, .slice none 0 0]
theorem info_kp : (Tryz.prog.info? 72).map (fun i => (i.zero, i.size, i.bytes)) = some (some (.agg zeroKp), 5, 72) := by kernel_rfl
theorem there5k (V : World) (a b c d e : Value) (t : TypeId) : There (V.alloc (.cells #[a, b, c, d, e] t)) V.heap.size 5 := fun o ho => by
  have hc : o = 0 ∨ o = 1 ∨ o = 2 ∨ o = 3 ∨ o = 4 := by omega
  rcases hc with rfl | rfl | rfl | rfl | rfl <;> exact ⟨⟨_, by simp [go_sem]; rfl⟩, by simp [go_sem]⟩
theorem make_kepts (n : Nat) (h : n ≤ 1048576) (w : World) :
    (Instr.makeSlice 32 (.int .i64 (n : Int)) (.int .i64 (n : Int))).run Tryz.prog w = .ok (.slice (some ⟨w.heap.size, 0, none⟩) n n) (w.alloc (.cells (madeCells zeroKp (n * 5)) 72)) := by
  obtain ⟨i, hi, hz, hs, hb⟩ := info_parts info_kp
  have hr := run_make (P := Tryz.prog) w 32 72 i _ Tryz.underlying32 hi hz .i64 .i64 (n : Int) (n : Int) (by omega) (Int.le_refl _) (by rw [hb]; omega) (by omega)
  simp only [Int.toNat_natCast, hs] at hr
  exact hr
theorem there_madeK (n : Nat) (w : World) (t : TypeId) : There (w.alloc (.cells (madeCells zeroKp n) t)) w.heap.size n := fun o ho => by
  have hz := size_madeCells zeroKp n
  refine ⟨⟨(madeCells zeroKp n)[o]'(by rw [hz]; exact ho), ?_⟩, World.frozen?_alloc_at _ _ _ _ rfl⟩
  rw [World.cell?_alloc_at _ _ _ _ rfl]
  exact Array.getElem?_eq_getElem _
theorem resTK (T : Array Value) (Wf : World) (r : Nat) (k : Kp) (hT : T[2]?.getD undef = .pointer (some ⟨r, 0, none⟩)) (h : KpAt Wf r 0 k) :
    (results Tryz.f56 T).run Tryz.prog Wf = .ok (kpV k) Wf := by
  obtain ⟨h0, h1, h2, h3, h4⟩ := h
  simp only [Nat.zero_add] at h0 h1 h2 h3 h4
  simp [results, Tryz.results56, go_sem, hT, h0, h1, h2, h3, h4]
set_option maxHeartbeats 4000000 in
theorem eqKept_any (B C : Nat) (k a c : Kp) (w : World) (ha : KpOwn w B k a) (hc : KpOwn w C k c) (hs : SmallK k) :
    Calls Tryz.prog 71 #[kpV a, kpV c] w fun e w' => e = .returned (.bool true) ∧ Below w.heap.size w w' := by
  obtain ⟨⟨e1, e2, e3⟩, ⟨fb, e4, e5, e6, hF⟩, ib, e7, e8, e9, e10, _, hib, hN⟩ := ha
  obtain ⟨⟨d1, d2, d3⟩, ⟨fd, d4, d5, d6, hG⟩, id, d7, d8, d9, d10, _, hid, hM⟩ := hc
  unfold kpV
  rw [e1, e2, e3, e4, e5, e6, e7, e8, e9, d1, d2, d3, d4, d5, d6, d7, d8, d9]
  have HF : Hid (OwnFs w B fb k.fn k.F a.F) := hF
  have HG : Hid (OwnFs w C fd k.fn k.F c.F) := hG
  have HN : Hid (IsNs w (some ⟨ib, 0, none⟩) k.m k.I) := hN.is hib
  have HM : Hid (IsNs w (some ⟨id, 0, none⟩) k.m k.I) := hM.is hid
  have HS : Hid (SmallK k) := hs
  clear hF hG hN hM hs e1 e2 e3 e4 e5 e6 e7 e8 e9 e10 d1 d2 d3 d4 d5 d6 d7 d8 d9 d10 hib hid
  go_enter Tryz.func71, Tryz.ntmps71
  go_wp2_with fail
  generalize hW : ((w.alloc _).alloc _ : World) = W
  have hB0 : Below w.heap.size w W := by subst hW; (repeat (first | exact Below.refl _ _ | assumption | refine Below.drew ?_ | refine bl_alloc ?_ _ | refine bl_then ?_ (by assumption) | refine Below.setCell ?_ (by first | omega | (simp; done) | (simp; omega)) _ | refine bl_store ?_ ?_ _ _))
  have c4 : ∀ W', Below W.heap.size W W' → W'.cell? ⟨w.heap.size, 4, none⟩ = some (.slice (some ⟨ib, 0, none⟩) k.m k.m) := fun W' h => by rw [h.cell (by subst hW; simp; omega)]; subst hW; simp [go_sem]
  have d4 : ∀ W', Below W.heap.size W W' → W'.cell? ⟨w.heap.size + 1, 4, none⟩ = some (.slice (some ⟨id, 0, none⟩) k.m k.m) := fun W' h => by rw [h.cell (by subst hW; simp)]; subst hW; simp [go_sem]
  clear hW
  refine (eqTile_any k.z k.x k.y fb fd k.fn B C k.F a.F c.F W (HF.out.below hB0) (HG.out.below hB0) HS.out.1).mono ?_
  rintro e w1 ⟨rfl, hb1⟩
  have g4 := c4 w1 hb1
  have l4 := d4 w1 hb1
  have hB1 : Below w.heap.size w w1 := bl_then hB0 hb1
  clear c4 d4 hb1 hB0
  go_wp2_with fail
  refine (eqInt64S_any _ _ k.m _ _ k.I _ (HN.out.below hB1) (HM.out.below hB1) HS.out.2).mono ?_
  rintro e w2 ⟨rfl, hb2⟩
  have HB2 : Hid (Below w.heap.size w w2) := bl_then hB1 hb2
  clear hb2
  go_wp2
  go_ret
  exact ⟨rfl, HB2.out⟩
end Go.Proofs.YtciidkmonfmipaaGreat
