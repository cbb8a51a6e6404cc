/- Tiles that are kept, with their rasters: how lists of them lie in memory; they are copied and compared. -/
import Derived.Test.YthidgolnajggpaaGreatVNearestIn28
import Derived.Test.YthidgolnajggpaaGreatVNearestIn29
namespace Go.Proofs.YthidgolnajggpaaGreat
open Go.RowKit
set_option linter.unusedSimpArgs false
set_option linter.unusedVariables false
set_option maxRecDepth 100000

/-- A tile that is kept: its ref, its features, its Ids. -/
structure Kp where
  z : Int
  x : Int
  y : Int
  fa : Option Addr
  fn : Nat
  fc : Nat
  F : Nat → Feat
  ia : Option Addr
  m : Nat
  ic : Nat
  I : Nat → Int
abbrev kpV (k : Kp) : Value := .agg #[.int .i64 k.z, .int .i64 k.x, .int .i64 k.y, .slice k.fa k.fn k.fc, .slice k.ia k.m k.ic]
/-- The five cells of one. -/
def KpAt (w : World) (p o : Nat) (k : Kp) : Prop := w.cell? ⟨p, o, none⟩ = some (.int .i64 k.z) ∧ w.cell? ⟨p, o + 1, none⟩ = some (.int .i64 k.x) ∧ w.cell? ⟨p, o + 2, none⟩ = some (.int .i64 k.y) ∧ w.cell? ⟨p, o + 3, none⟩ = some (.slice k.fa k.fn k.fc) ∧ w.cell? ⟨p, o + 4, none⟩ = some (.slice k.ia k.m k.ic)
theorem KpAt.below {w w' : World} {p o B : Nat} {k : Kp} (h : KpAt w p o k) (hb : Below B w w') (hp : p < B) : KpAt w' p o k := by
  obtain ⟨h0, h1, h2, h3, h4⟩ := h
  exact ⟨(hb.cell (p := ⟨p, o, none⟩) hp).trans h0, (hb.cell (p := ⟨p, o + 1, none⟩) hp).trans h1, (hb.cell (p := ⟨p, o + 2, none⟩) hp).trans h2, (hb.cell (p := ⟨p, o + 3, none⟩) hp).trans h3, (hb.cell (p := ⟨p, o + 4, none⟩) hp).trans h4⟩
/-- What it names may be read. -/
def KpIs (w : World) (k : Kp) : Prop := IsFs w k.fa k.fn k.F ∧ IsNs w k.ia k.m k.I
theorem KpIs.below {w w' : World} {k : Kp} (h : KpIs w k) (hb : Below w.heap.size w w') : KpIs w' k := ⟨h.1.below hb, h.2.below hb⟩
def KsAt (w : World) (b off n : Nat) (K : Nat → Kp) : Prop := ∀ i, i < n → KpAt w b (off + i * 5) (K i) ∧ KpIs w (K i)
theorem KsAt.below {w w' : World} {b off n : Nat} {K : Nat → Kp} (h : KsAt w b off n K) (hb : Below w.heap.size w w') (hl : b < w.heap.size) : KsAt w' b off n K := fun i hi => ⟨(h i hi).1.below hb hl, (h i hi).2.below hb⟩
def IsKs (w : World) (a : Option Addr) (n : Nat) (K : Nat → Kp) : Prop := n = 0 ∨ ∃ b off, a = some ⟨b, off, none⟩ ∧ b < w.heap.size ∧ KsAt w b off n K
theorem IsKs.below {w w' : World} {a : Option Addr} {n : Nat} {K : Nat → Kp} (h : IsKs w a n K) (hb : Below w.heap.size w w') : IsKs w' a n K := by
  rcases h with h | ⟨b, off, e, hl, hp⟩
  · exact .inl h
  · exact .inr ⟨b, off, e, Nat.lt_of_lt_of_le hl hb.size, hp.below hb hl⟩
/-- All within bounds. -/
def SmallK (k : Kp) : Prop := SmallFs k.fn k.F ∧ k.m ≤ 1048576
def SmallKs (n : Nat) (K : Nat → Kp) : Prop := n ≤ 1048576 ∧ ∀ i, i < n → SmallK (K i)
/-- What came in. -/
def CameK (k : Kp) : Prop := CameFs k.fn k.F ∧ k.m ≤ maxLen
def CameKs (n : Nat) (K : Nat → Kp) : Prop := n ≤ maxLen ∧ ∀ i, i < n → CameK (K i)
/-- A copy of one: its features and its Ids in blocks from B on. -/
def KpOwn (w : World) (B : Nat) (k a : Kp) : Prop :=
  (a.z = k.z ∧ a.x = k.x ∧ a.y = k.y) ∧ (∃ fb, a.fa = some ⟨fb, 0, none⟩ ∧ a.fn = k.fn ∧ a.fc = k.fn ∧ OwnFs w B fb k.fn k.F a.F) ∧
  ∃ ib, a.ia = some ⟨ib, 0, none⟩ ∧ a.m = k.m ∧ a.ic = k.m ∧ a.I = k.I ∧ B ≤ ib ∧ ib < w.heap.size ∧ NsAt w ib 0 k.m k.I
theorem KpOwn.below {w w' : World} {B : Nat} {k a : Kp} (h : KpOwn w B k a) (hb : Below w.heap.size w w') : KpOwn w' B k a := by
  obtain ⟨h1, ⟨fb, e1, e2, e3, h2⟩, ib, e4, e5, e6, e7, h3, h4, h5⟩ := h
  exact ⟨h1, ⟨fb, e1, e2, e3, h2.below hb⟩, ib, e4, e5, e6, e7, h3, Nat.lt_of_lt_of_le h4 hb.size, h5.below hb h4⟩
theorem KpOwn.mid {w w' : World} {B C lo hi : Nat} {k a : Kp} (h : KpOwn w B k a) (hM : MidB lo hi w w') (hh : hi ≤ B) (hC : C ≤ B) : KpOwn w' C k a := by
  obtain ⟨h1, ⟨fb, e1, e2, e3, h2⟩, ib, e4, e5, e6, e7, h3, h4, h5⟩ := h
  exact ⟨h1, ⟨fb, e1, e2, e3, h2.midB hM hh hC⟩, ib, e4, e5, e6, e7, by omega, Nat.lt_of_lt_of_le h4 hM.size, fun i hi => hM.cell (h5 i hi) (.inr (by omega))⟩
theorem KpOwn.is {w : World} {B : Nat} {k a : Kp} (h : KpOwn w B k a) : KpIs w a := by
  obtain ⟨_, ⟨fb, e1, e2, e3, h2⟩, ib, e4, e5, e6, e7, h3, h4, h5⟩ := h
  refine ⟨.inr ⟨fb, 0, e1, h2.2.1, ?_⟩, .inr ⟨ib, 0, e4, h4, ?_⟩⟩
  · rw [e2]; exact h2.2.2.1
  · rw [e5, e7]; exact h5
/-- A list of copies: block b below B, what they name from B on. -/
def OwnKs (w : World) (B b n : Nat) (K A : Nat → Kp) : Prop := b < B ∧ b < w.heap.size ∧ ∀ i, i < n → KpAt w b (i * 5) (A i) ∧ KpOwn w B (K i) (A i)
theorem OwnKs.below {w w' : World} {B b n : Nat} {K A : Nat → Kp} (h : OwnKs w B b n K A) (hb : Below w.heap.size w w') : OwnKs w' B b n K A :=
  ⟨h.1, Nat.lt_of_lt_of_le h.2.1 hb.size, fun i hi => ⟨(h.2.2 i hi).1.below hb h.2.1, (h.2.2 i hi).2.below hb⟩⟩
/-- Five stores: one is laid. -/
def layK (W : World) (B o : Nat) (k : Kp) : World := (((((W.setCell ⟨B, o, none⟩ (.int .i64 k.z)).setCell ⟨B, o + 1, none⟩ (.int .i64 k.x)).setCell ⟨B, o + 2, none⟩ (.int .i64 k.y)).setCell ⟨B, o + 3, none⟩ (.slice k.fa k.fn k.fc)).setCell ⟨B, o + 4, none⟩ (.slice k.ia k.m k.ic))
theorem layK_mid (W : World) (B o : Nat) (k : Kp) : MidB B (B + 1) W (layK W B o k) :=
  (((((MidB.refl B (B + 1) W).set (Nat.le_refl _) (Nat.lt_succ_self _) _ _).set (Nat.le_refl _) (Nat.lt_succ_self _) _ _).set (Nat.le_refl _) (Nat.lt_succ_self _) _ _).set (Nat.le_refl _) (Nat.lt_succ_self _) _ _).set (Nat.le_refl _) (Nat.lt_succ_self _) _ _
theorem layK_there {W : World} {B o m : Nat} {k : Kp} (h : There W B m) : There (layK W B o k) B m := by
  unfold layK
  exact (((((h.set _ _).set _ _).set _ _).set _ _).set _ _)
theorem layK_size (W : World) (B o : Nat) (k : Kp) : (layK W B o k).heap.size = W.heap.size := by unfold layK; simp
theorem layK_other {W : World} {B o : Nat} {k : Kp} {p : Addr} (h : p.block ≠ B ∨ p.off < o ∨ o + 4 < p.off) : (layK W B o k).cell? p = W.cell? p := by
  have ne : ∀ k : Nat, k ≤ 4 → (⟨B, o + k, none⟩ : Addr) ≠ p := fun k hk e => by subst e; simp at h; omega
  have ne0 : (⟨B, o, none⟩ : Addr) ≠ p := ne 0 (by omega)
  unfold layK
  rw [set1_other (ne 4 (by omega)), set1_other (ne 3 (by omega)), set1_other (ne 2 (by omega)), set1_other (ne 1 (by omega)), set1_other ne0]
theorem layK_at {W : World} {B o m : Nat} {k : Kp} (h : There W B m) (ho : o + 4 < m) : KpAt (layK W B o k) B o k := by
  have ne : ∀ i j : Nat, i ≠ j → (⟨B, i, none⟩ : Addr) ≠ ⟨B, j, none⟩ := fun i j hij h => hij (by injection h)
  obtain ⟨u0, g0⟩ := (h (o) (by omega)).1
  obtain ⟨u1, g1⟩ := ((h.set (o) (.int .i64 k.z)) (o + 1) (by omega)).1
  obtain ⟨u2, g2⟩ := (((h.set (o) (.int .i64 k.z)).set (o + 1) (.int .i64 k.x)) (o + 2) (by omega)).1
  obtain ⟨u3, g3⟩ := ((((h.set (o) (.int .i64 k.z)).set (o + 1) (.int .i64 k.x)).set (o + 2) (.int .i64 k.y)) (o + 3) (by omega)).1
  obtain ⟨u4, g4⟩ := (((((h.set (o) (.int .i64 k.z)).set (o + 1) (.int .i64 k.x)).set (o + 2) (.int .i64 k.y)).set (o + 3) (.slice k.fa k.fn k.fc)) (o + 4) (by omega)).1
  unfold layK
  refine ⟨?_, ?_, ?_, ?_, ?_⟩
  · rw [set1_other (ne (o + 4) (o) (by omega)), set1_other (ne (o + 3) (o) (by omega)), set1_other (ne (o + 2) (o) (by omega)), set1_other (ne (o + 1) (o) (by omega))]; exact set1_same g0
  · rw [set1_other (ne (o + 4) (o + 1) (by omega)), set1_other (ne (o + 3) (o + 1) (by omega)), set1_other (ne (o + 2) (o + 1) (by omega))]; exact set1_same g1
  · rw [set1_other (ne (o + 4) (o + 2) (by omega)), set1_other (ne (o + 3) (o + 2) (by omega))]; exact set1_same g2
  · rw [set1_other (ne (o + 4) (o + 3) (by omega))]; exact set1_same g3
  · exact set1_same g4
abbrev zeroKp : Array Value := #[.int .i64 0, .int .i64 0, .int .i64 0, .slice none 0 0, .slice none 0 0]
theorem info_kp : (Tryz.prog.info? 65).map (fun i => (i.zero, i.size, i.bytes)) = some (some (.agg zeroKp), 5, 72) := by kernel_rfl
theorem there5k (V : World) (a b c d e : Value) (t : TypeId) : There (V.alloc (.cells #[a, b, c, d, e] t)) V.heap.size 5 := fun o ho => by
  have hc : o = 0 ∨ o = 1 ∨ o = 2 ∨ o = 3 ∨ o = 4 := by omega
  rcases hc with rfl | rfl | rfl | rfl | rfl <;> exact ⟨⟨_, by simp [go_sem]; rfl⟩, by simp [go_sem]⟩
theorem make_kepts (n : Nat) (h : n ≤ 1048576) (w : World) :
    (Instr.makeSlice 32 (.int .i64 (n : Int)) (.int .i64 (n : Int))).run Tryz.prog w = .ok (.slice (some ⟨w.heap.size, 0, none⟩) n n) (w.alloc (.cells (madeCells zeroKp (n * 5)) 65)) := by
  obtain ⟨i, hi, hz, hs, hb⟩ := info_parts info_kp
  have hr := run_make (P := Tryz.prog) w 32 65 i _ Tryz.underlying32 hi hz .i64 .i64 (n : Int) (n : Int) (by omega) (Int.le_refl _) (by rw [hb]; omega) (by omega)
  simp only [Int.toNat_natCast, hs] at hr
  exact hr
theorem there_madeK (n : Nat) (w : World) (t : TypeId) : There (w.alloc (.cells (madeCells zeroKp n) t)) w.heap.size n := fun o ho => by
  have hz := size_madeCells zeroKp n
  refine ⟨⟨(madeCells zeroKp n)[o]'(by rw [hz]; exact ho), ?_⟩, World.frozen?_alloc_at _ _ _ _ rfl⟩
  rw [World.cell?_alloc_at _ _ _ _ rfl]
  exact Array.getElem?_eq_getElem _
theorem resTK (T : Array Value) (Wf : World) (r : Nat) (k : Kp) (hT : T[2]?.getD undef = .pointer (some ⟨r, 0, none⟩)) (h : KpAt Wf r 0 k) :
    (results Tryz.f62 T).run Tryz.prog Wf = .ok (kpV k) Wf := by
  obtain ⟨h0, h1, h2, h3, h4⟩ := h
  simp only [Nat.zero_add] at h0 h1 h2 h3 h4
  simp [results, Tryz.results62, go_sem, hT, h0, h1, h2, h3, h4]
set_option maxHeartbeats 4000000 in
theorem toKept_any (k : Kp) (w : World) (hp : KpIs w k) (hs : SmallK k) : Calls Tryz.prog 62 #[kpV k] w fun e w' => ∃ a, e = .returned (kpV a) ∧ KpOwn w' w.heap.size k a ∧ Below w.heap.size w w' := by
  have HP : Hid (KpIs w k) := hp
  have HS : Hid (SmallK k) := hs
  clear hp hs
  go_enter Tryz.func62, Tryz.ntmps62
  go_wp2_with fail
  generalize hW : (((w.alloc _).alloc _).alloc _ : World) = W
  have hB0 : Below w.heap.size w W := by subst hW; (repeat (first | exact Below.refl _ _ | assumption | refine Below.drew ?_ | refine bl_alloc ?_ _ | refine bl_then ?_ (by assumption) | refine Below.setCell ?_ (by first | omega | (simp; done) | (simp; omega)) _ | refine bl_store ?_ ?_ _ _))
  have HT : Hid (There W (w.heap.size + 1) 5) := by
    show There _ _ _
    subst hW
    have := (there5k (w.alloc (.cells #[.int .i64 k.z, .int .i64 k.x, .int .i64 k.y, .slice k.fa k.fn k.fc, .slice k.ia k.m k.ic] 94)) (.int .i64 0) (.int .i64 0) (.int .i64 0) (.slice none 0 0) (.slice none 0 0) 65).below (bl_alloc (Below.refl _ _) (.cells #[.int .i64 0, .int .i64 0, .int .i64 0, .slice none 0 0, .slice none 0 0] 65))
    simpa using this
  have HU : Hid (There W (w.heap.size + 1 + 1) 5) := by
    show There _ _ _
    subst hW
    have := there5k ((w.alloc (.cells #[.int .i64 k.z, .int .i64 k.x, .int .i64 k.y, .slice k.fa k.fn k.fc, .slice k.ia k.m k.ic] 94)).alloc (.cells #[.int .i64 0, .int .i64 0, .int .i64 0, .slice none 0 0, .slice none 0 0] 65)) (.int .i64 0) (.int .i64 0) (.int .i64 0) (.slice none 0 0) (.slice none 0 0) 65
    simpa using this
  have c4 : W.cell? ⟨w.heap.size, 4, none⟩ = some (.slice k.ia k.m k.ic) := by subst hW; simp [go_sem]
  have hsz : w.heap.size + 1 + 1 < W.heap.size := by subst hW; simp
  clear hW
  refine (toTile_any k.z k.x k.y k.fa k.fn k.fc k.F W (HP.out.below hB0).1 HS.out.1.1 (fun i hi => (HS.out.1.2 i hi).1)).mono ?_
  rintro e w1 ⟨fb, G, rfl, hO1, hb1⟩
  have d4 : w1.cell? ⟨w.heap.size, 4, none⟩ = some (.slice k.ia k.m k.ic) := bl_cell hb1 c4
  have HO1 : Hid (OwnFs w1 W.heap.size fb k.fn k.F G) := hO1
  have HT1 : Hid (There w1 (w.heap.size + 1) 5) := HT.out.below hb1
  have HU1 : Hid (There w1 (w.heap.size + 1 + 1) 5) := HU.out.below hb1
  have hB1 : Below w.heap.size w w1 := bl_then hB0 hb1
  have hsz1 : w.heap.size + 1 + 1 < w1.heap.size := Nat.lt_of_lt_of_le hsz hb1.size
  clear c4 HT HU hB0 hb1 hO1
  have hT' := HU1.out
  have t0 := hT'.cell 0 (by omega)
  have t1 := hT'.cell 1 (by omega)
  have t2 := hT'.cell 2 (by omega)
  have t3 := hT'.cell 3 (by omega)
  have t4 := hT'.cell 4 (by omega)
  have f0 := (hT' 0 (by omega)).2
  have f1 := (hT' 1 (by omega)).2
  have f2 := (hT' 2 (by omega)).2
  have f3 := (hT' 3 (by omega)).2
  have f4 := (hT' 4 (by omega)).2
  clear hT'
  go_wp2_with fail
  generalize hW2 : ((((w1.setCell ⟨w.heap.size + 1 + 1, 0, none⟩ (.int .i64 k.z)).setCell ⟨w.heap.size + 1 + 1, 1, none⟩ (.int .i64 k.x)).setCell ⟨w.heap.size + 1 + 1, 2, none⟩ (.int .i64 k.y)).setCell ⟨w.heap.size + 1 + 1, 3, none⟩ (.slice (some ⟨fb, 0, none⟩) k.fn k.fn)) = w2
  obtain ⟨g0, g1, g2, g3⟩ : w2.cell? ⟨w.heap.size + 1 + 1, 0, none⟩ = some (.int .i64 k.z) ∧ w2.cell? ⟨w.heap.size + 1 + 1, 1, none⟩ = some (.int .i64 k.x) ∧ w2.cell? ⟨w.heap.size + 1 + 1, 2, none⟩ = some (.int .i64 k.y) ∧ w2.cell? ⟨w.heap.size + 1 + 1, 3, none⟩ = some (.slice (some ⟨fb, 0, none⟩) k.fn k.fn) := by
    rw [← hW2]
    exact set4_at (fun o ho => HU1.out o (by omega))
  have HU2 : Hid (There w2 (w.heap.size + 1 + 1) 5) := by
    show There _ _ _
    rw [← hW2]
    exact (((HU1.out.set _ _).set _ _).set _ _).set _ _
  have hM2 : MidB w.heap.size (w.heap.size + 1 + 1 + 1) w1 w2 := by
    rw [← hW2]
    exact ((((MidB.refl _ _ _).set (by omega) (by omega) _ _).set (by omega) (by omega) _ _).set (by omega) (by omega) _ _).set (by omega) (by omega) _ _
  have HT2 : Hid (There w2 (w.heap.size + 1) 5) := by
    show There _ _ _
    rw [← hW2]
    exact (((HT1.out.otherJ (by omega)).otherJ (by omega)).otherJ (by omega)).otherJ (by omega)
  have HO2 : Hid (OwnFs w2 W.heap.size fb k.fn k.F G) := HO1.out.midB hM2 (by omega) (Nat.le_refl _)
  have hB2 : Below w.heap.size w w2 := hB1.trans (hM2.below (by omega))
  have hsz2 : w.heap.size + 1 + 1 < w2.heap.size := Nat.lt_of_lt_of_le hsz1 hM2.size
  have hsW : W.heap.size ≤ w2.heap.size := Nat.le_trans (Nat.le_of_lt (Nat.lt_of_le_of_lt HO1.out.1 HO1.out.2.1)) hM2.size
  clear hW2 hM2 t0 t1 t2 t3 t4 f0 f1 f2 f3 f4 HU1 HT1 hB1 d4 hsz1 HO1
  refine (toInt64S_own k.ia k.m k.ic k.I w2 (HP.out.2.below hB2) HS.out.2).mono ?_
  rintro e w3 ⟨ib, rfl, hge3, hlt3, hN3, _, hb3⟩
  have k0 := bl_cell hb3 g0
  have k1 := bl_cell hb3 g1
  have k2 := bl_cell hb3 g2
  have k3 := bl_cell hb3 g3
  have hT3 := HT2.out.below hb3
  have hU3 := HU2.out.below hb3
  have hz4 := (hU3 4 (by omega)).2
  obtain ⟨u4, k4⟩ := (hU3 4 (by omega)).1
  have HO3 : Hid (OwnFs w3 W.heap.size fb k.fn k.F G) := HO2.out.below hb3
  have HN3 : Hid (NsAt w3 ib 0 k.m k.I) := hN3
  have HB3 : Hid (Below w.heap.size w w3) := bl_then hB2 hb3
  have hne : ∀ i j : Nat, i ≠ j → (⟨w.heap.size + 1 + 1, i, none⟩ : Addr) ≠ ⟨w.heap.size + 1 + 1, j, none⟩ := fun i j hij h => hij (by injection h)
  have i0 : (w3.setCell ⟨w.heap.size + 1 + 1, 4, none⟩ (.slice (some ⟨ib, 0, none⟩) k.m k.m)).cell? ⟨w.heap.size + 1 + 1, 0, none⟩ = some (.int .i64 k.z) := by rw [set1_other (hne _ _ (by omega))]; exact k0
  have i1 : (w3.setCell ⟨w.heap.size + 1 + 1, 4, none⟩ (.slice (some ⟨ib, 0, none⟩) k.m k.m)).cell? ⟨w.heap.size + 1 + 1, 1, none⟩ = some (.int .i64 k.x) := by rw [set1_other (hne _ _ (by omega))]; exact k1
  have i2 : (w3.setCell ⟨w.heap.size + 1 + 1, 4, none⟩ (.slice (some ⟨ib, 0, none⟩) k.m k.m)).cell? ⟨w.heap.size + 1 + 1, 2, none⟩ = some (.int .i64 k.y) := by rw [set1_other (hne _ _ (by omega))]; exact k2
  have i3 : (w3.setCell ⟨w.heap.size + 1 + 1, 4, none⟩ (.slice (some ⟨ib, 0, none⟩) k.m k.m)).cell? ⟨w.heap.size + 1 + 1, 3, none⟩ = some (.slice (some ⟨fb, 0, none⟩) k.fn k.fn) := by rw [set1_other (hne _ _ (by omega))]; exact k3
  have i4 : (w3.setCell ⟨w.heap.size + 1 + 1, 4, none⟩ (.slice (some ⟨ib, 0, none⟩) k.m k.m)).cell? ⟨w.heap.size + 1 + 1, 4, none⟩ = some (.slice (some ⟨ib, 0, none⟩) k.m k.m) := set1_same k4
  have HT4 : Hid (There (w3.setCell ⟨w.heap.size + 1 + 1, 4, none⟩ (.slice (some ⟨ib, 0, none⟩) k.m k.m)) (w.heap.size + 1) 5) := hT3.otherJ (by omega)
  have hT' := HT4.out
  have t0 := hT'.cell 0 (by omega)
  have t1 := hT'.cell 1 (by omega)
  have t2 := hT'.cell 2 (by omega)
  have t3 := hT'.cell 3 (by omega)
  have t4 := hT'.cell 4 (by omega)
  have f0 := (hT' 0 (by omega)).2
  have f1 := (hT' 1 (by omega)).2
  have f2 := (hT' 2 (by omega)).2
  have f3 := (hT' 3 (by omega)).2
  have f4 := (hT' 4 (by omega)).2
  clear hT' g0 g1 g2 g3 HT2 HU2 hB2 hN3 hb3 hT3 hU3 hne k0 k1 k2 k3 HP HO2
  go_wp2_with fail
  have hat := layK_at (W := w3.setCell ⟨w.heap.size + 1 + 1, 4, none⟩ (.slice (some ⟨ib, 0, none⟩) k.m k.m)) (B := w.heap.size + 1) (o := 0) (k := ⟨k.z, k.x, k.y, some ⟨fb, 0, none⟩, k.fn, k.fn, G, some ⟨ib, 0, none⟩, k.m, k.m, k.I⟩) HT4.out (by omega)
  have hMM : MidB w.heap.size (w.heap.size + 1 + 1 + 1) w3 (layK (w3.setCell ⟨w.heap.size + 1 + 1, 4, none⟩ (.slice (some ⟨ib, 0, none⟩) k.m k.m)) (w.heap.size + 1) 0 ⟨k.z, k.x, k.y, some ⟨fb, 0, none⟩, k.fn, k.fn, G, some ⟨ib, 0, none⟩, k.m, k.m, k.I⟩) := by
    unfold layK
    exact ((((((MidB.refl _ _ _).set (by omega) (by omega) _ _).set (by omega) (by omega) _ _).set (by omega) (by omega) _ _).set (by omega) (by omega) _ _).set (by omega) (by omega) _ _).set (by omega) (by omega) _ _
  have hown : KpOwn w3 W.heap.size k ⟨k.z, k.x, k.y, some ⟨fb, 0, none⟩, k.fn, k.fn, G, some ⟨ib, 0, none⟩, k.m, k.m, k.I⟩ := ⟨⟨rfl, rfl, rfl⟩, ⟨fb, rfl, rfl, rfl, HO3.out⟩, ib, rfl, rfl, rfl, rfl, by omega, hlt3, HN3.out⟩
  have hown' := hown.mid hMM (by omega) (C := w.heap.size) (by omega)
  have hbl : Below w.heap.size w (layK (w3.setCell ⟨w.heap.size + 1 + 1, 4, none⟩ (.slice (some ⟨ib, 0, none⟩) k.m k.m)) (w.heap.size + 1) 0 ⟨k.z, k.x, k.y, some ⟨fb, 0, none⟩, k.fn, k.fn, G, some ⟨ib, 0, none⟩, k.m, k.m, k.I⟩) := HB3.out.trans (hMM.below (by omega))
  simp only [layK, Nat.zero_add] at hat hown' hbl
  exact bodyPost_ret (resTK _ _ _ ⟨k.z, k.x, k.y, some ⟨fb, 0, none⟩, k.fn, k.fn, G, some ⟨ib, 0, none⟩, k.m, k.m, k.I⟩ rfl hat) rfl ⟨_, rfl, hown', hbl⟩
set_option maxHeartbeats 4000000 in
theorem toKeptS_any (a : Option Addr) (n cap : Nat) (K : Nat → Kp) (w : World) (hp : IsKs w a n K) (hs : SmallKs n K) :
    Calls Tryz.prog 32 #[.slice a n cap] w fun e w' => ∃ b A, e = .returned (.slice (some ⟨b, 0, none⟩) n n) ∧ w.heap.size ≤ b ∧ OwnKs w' (b + 1) b n K A ∧ Below w.heap.size w w' := by
  have hmk := make_kepts n hs.1
  have HP : Hid (IsKs w a n K) := hp
  have HS : Hid (SmallKs n K) := hs
  have hmax := hs.1
  clear hp hs
  go_enter Tryz.func32, Tryz.ntmps32
  go_wp2
  generalize hW : (w.alloc _ : World) = W
  have HB0 : Hid (Below w.heap.size w W) := by show Below _ _ _; subst hW; (repeat (first | exact Below.refl _ _ | assumption | refine Below.drew ?_ | refine bl_alloc ?_ _ | refine bl_then ?_ (by assumption) | refine Below.setCell ?_ (by first | omega | (simp; done) | (simp; omega)) _ | refine bl_store ?_ ?_ _ _))
  have HT0 : Hid (There W w.heap.size (n * 5)) := by show There _ _ _; subst hW; exact there_madeK _ _ _
  have HL0 : Hid (w.heap.size < W.heap.size) := by show _ < _; subst hW; simp
  clear hW hmk
  go_loopw [4] (fun i wr => ∃ (k : Nat) (A : Nat → Kp), k ≤ n ∧ i = .int .i64 k ∧ Below w.heap.size w wr ∧ There wr w.heap.size (n * 5) ∧ OwnKs wr (w.heap.size + 1) w.heap.size k K A) (fun i _ => n - (intOf i).toNat)
  case atStart => exact ⟨0, fun _ => ⟨0, 0, 0, none, 0, 0, fun _ => ⟨0, 0, 0, 0, none, 0, 0, fun _ => 0, fun _ => 0, ⟨#[]⟩, 0⟩, none, 0, 0, fun _ => 0⟩, by omega, rfl, HB0.out, HT0.out, Nat.lt_succ_self _, HL0.out, fun i hi => absurd hi (Nat.not_lt_zero _)⟩
  case round =>
    obtain ⟨k, A, hk, rfl, hB, hT, hO⟩ := hrel
    by_cases hlt : k < n
    · rcases HP.out with h0 | ⟨b, off, rfl, hbl, hpt⟩
      · omega
      obtain ⟨⟨f0, f1, f2, f3, f4⟩, hkis⟩ := (hpt.below hB hbl) k hlt
      have HKI : Hid (KpIs wr (K k)) := hkis
      have HB : Hid (Below w.heap.size w wr) := hB
      have HT : Hid (There wr w.heap.size (n * 5)) := hT
      have HO : Hid (OwnKs wr (w.heap.size + 1) w.heap.size k K A) := hO
      have hsr : w.heap.size < wr.heap.size := hO.2.1
      clear hB hT hO hpt hkis
      have hi : (k : Int) < (n : Int) := by omega
      have hi0 : (0 : Int) ≤ (k : Int) := by omega
      go_wp2_with fail
      refine (toKept_any (K k) _ HKI.out (HS.out.2 k hlt)).mono ?_
      rintro e w' ⟨c, rfl, hc, hb⟩
      have hT' := HT.out.below hb
      have t0 := hT'.cell (k * 5 + 0) (by omega)
      have t1 := hT'.cell (k * 5 + 1) (by omega)
      have t2 := hT'.cell (k * 5 + 2) (by omega)
      have t3 := hT'.cell (k * 5 + 3) (by omega)
      have t4 := hT'.cell (k * 5 + 4) (by omega)
      have y0 := (hT' (k * 5 + 0) (by omega)).2
      have y1 := (hT' (k * 5 + 1) (by omega)).2
      have y2 := (hT' (k * 5 + 2) (by omega)).2
      have y3 := (hT' (k * 5 + 3) (by omega)).2
      have y4 := (hT' (k * 5 + 4) (by omega)).2
      simp only [Nat.add_zero] at t0 y0
      have HT' : Hid (There w' w.heap.size (n * 5)) := hT'
      have HBn : Hid (Below wr.heap.size wr w') := hb
      have HC : Hid (KpOwn w' wr.heap.size (K k) c) := hc
      have HO' : Hid (OwnKs w' (w.heap.size + 1) w.heap.size k K A) := HO.out.below hb
      clear hT' hb hc f0 f1 f2 f3 f4
      go_wp2
      go_roundw
      case rel =>
        have hM := layK_mid w' w.heap.size (k * 5) c
        refine ⟨k + 1, fun i => if i = k then c else A i, by omega, by go_num, ?_, ?_, ?_⟩
        · exact (HB.out.trans (HBn.out.mono HB.out.size)).trans ((hM.below (by have := HBn.out.size; omega)))
        · exact layK_there (k := c) (B := w.heap.size) (o := k * 5) HT'.out
        · refine ⟨Nat.lt_succ_self _, by show _ < (layK w' w.heap.size (k * 5) c).heap.size; rw [layK_size]; exact HO'.out.2.1, fun i hi => ?_⟩
          by_cases e : i = k
          · subst e
            dsimp only
            rw [if_pos rfl]
            exact ⟨layK_at HT'.out (by omega), HC.out.mid hM (by omega) (by omega)⟩
          · dsimp only
            rw [if_neg e]
            obtain ⟨h1, h2⟩ := HO'.out.2.2 i (by omega)
            refine ⟨?_, h2.mid hM (Nat.le_refl _) (Nat.le_refl _)⟩
            unfold KpAt at h1 ⊢
            show (layK w' w.heap.size (k * 5) c).cell? _ = _ ∧ (layK w' w.heap.size (k * 5) c).cell? _ = _ ∧ (layK w' w.heap.size (k * 5) c).cell? _ = _ ∧ (layK w' w.heap.size (k * 5) c).cell? _ = _ ∧ (layK w' w.heap.size (k * 5) c).cell? _ = _
            rw [layK_other (.inr (.inl (by simp; omega))), layK_other (.inr (.inl (by simp; omega))), layK_other (.inr (.inl (by simp; omega))), layK_other (.inr (.inl (by simp; omega))), layK_other (.inr (.inl (by simp; omega)))]
            exact h1
      case measure => simp [intOf]; omega
    · go_wp2
      go_ret
      have hkn : k = n := by omega
      subst hkn
      exact ⟨_, A, rfl, Nat.le_refl _, hO, hB⟩
set_option maxHeartbeats 4000000 in
theorem eqKept_any (B C : Nat) (k a c : Kp) (w : World) (ha : KpOwn w B k a) (hc : KpOwn w C k c) (hs : SmallK k) :
    Calls Tryz.prog 69 #[kpV a, kpV c] w fun e w' => e = .returned (.bool true) ∧ Below w.heap.size w w' := by
  obtain ⟨⟨e1, e2, e3⟩, ⟨fb, e4, e5, e6, hF⟩, ib, e7, e8, e9, e10, _, hib, hN⟩ := ha
  obtain ⟨⟨d1, d2, d3⟩, ⟨fd, d4, d5, d6, hG⟩, id, d7, d8, d9, d10, _, hid, hM⟩ := hc
  unfold kpV
  rw [e1, e2, e3, e4, e5, e6, e7, e8, e9, d1, d2, d3, d4, d5, d6, d7, d8, d9]
  have HF : Hid (OwnFs w B fb k.fn k.F a.F) := hF
  have HG : Hid (OwnFs w C fd k.fn k.F c.F) := hG
  have HN : Hid (IsNs w (some ⟨ib, 0, none⟩) k.m k.I) := hN.is hib
  have HM : Hid (IsNs w (some ⟨id, 0, none⟩) k.m k.I) := hM.is hid
  have HS : Hid (SmallK k) := hs
  clear hF hG hN hM hs e1 e2 e3 e4 e5 e6 e7 e8 e9 e10 d1 d2 d3 d4 d5 d6 d7 d8 d9 d10 hib hid
  go_enter Tryz.func69, Tryz.ntmps69
  go_wp2_with fail
  generalize hW : ((w.alloc _).alloc _ : World) = W
  have hB0 : Below w.heap.size w W := by subst hW; (repeat (first | exact Below.refl _ _ | assumption | refine Below.drew ?_ | refine bl_alloc ?_ _ | refine bl_then ?_ (by assumption) | refine Below.setCell ?_ (by first | omega | (simp; done) | (simp; omega)) _ | refine bl_store ?_ ?_ _ _))
  have c4 : ∀ W', Below W.heap.size W W' → W'.cell? ⟨w.heap.size, 4, none⟩ = some (.slice (some ⟨ib, 0, none⟩) k.m k.m) := fun W' h => by rw [h.cell (by subst hW; simp; omega)]; subst hW; simp [go_sem]
  have d4 : ∀ W', Below W.heap.size W W' → W'.cell? ⟨w.heap.size + 1, 4, none⟩ = some (.slice (some ⟨id, 0, none⟩) k.m k.m) := fun W' h => by rw [h.cell (by subst hW; simp)]; subst hW; simp [go_sem]
  clear hW
  refine (eqTile_any k.z k.x k.y fb fd k.fn B C k.F a.F c.F W (HF.out.below hB0) (HG.out.below hB0) HS.out.1).mono ?_
  rintro e w1 ⟨rfl, hb1⟩
  have g4 := c4 w1 hb1
  have l4 := d4 w1 hb1
  have hB1 : Below w.heap.size w w1 := bl_then hB0 hb1
  clear c4 d4 hb1 hB0
  go_wp2_with fail
  refine (eqInt64S_any _ _ k.m _ _ k.I _ (HN.out.below hB1) (HM.out.below hB1) HS.out.2).mono ?_
  rintro e w2 ⟨rfl, hb2⟩
  have HB2 : Hid (Below w.heap.size w w2) := bl_then hB1 hb2
  clear hb2
  go_wp2
  go_ret
  exact ⟨rfl, HB2.out⟩
end Go.Proofs.YthidgolnajggpaaGreat
