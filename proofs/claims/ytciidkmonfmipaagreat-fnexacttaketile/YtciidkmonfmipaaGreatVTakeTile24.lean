/- Several texts in one. -/
import Derived.Test.YtciidkmonfmipaaGreatVTakeTile23

/- Tiles that are kept, with their rasters: how lists of them lie in memory; they are copied and compared. -/

namespace Go.Proofs.YtciidkmonfmipaaGreat
open Go.RowKit
set_option linter.unusedSimpArgs false
set_option linter.unusedVariables false
set_option maxRecDepth 100000

/-- A tile that is kept: its ref, its features, its Ids. -/
structure Kp where
  z : Int
  x : Int
  y : Int
  fa : Option Addr
  fn : Nat
  fc : Nat
  F : Nat → Feat
  ia : Option Addr
  m : Nat
  ic : Nat
  I : Nat → Int
abbrev kpV (k : Kp) : Value := .agg #[.int .i64 k.z, .int .i64 k.x, .int .i64 k.y, .slice k.fa k.fn k.fc, .slice k.ia k.m k.ic]
/-- The five cells of one. -/
def KpAt (w : World) (p o : Nat) (k : Kp) : Prop := w.cell? ⟨p, o, none⟩ = some (.int .i64 k.z) ∧ w.cell? ⟨p, o + 1, none⟩ = some (.int .i64 k.x) ∧ w.cell? ⟨p, o + 2, none⟩ = some (.int .i64 k.y) ∧ w.cell? ⟨p, o + 3, none⟩ = some (.slice k.fa k.fn k.fc) ∧ w.cell? ⟨p, o + 4, none⟩ = some (.slice k.ia k.m k.ic)
theorem KpAt.below {w w' : World} {p o B : Nat} {k : Kp} (h : KpAt w p o k) (hb : Below B w w') (hp : p < B) : KpAt w' p o k := by
  obtain ⟨h0, h1, h2, h3, h4⟩ := h
  exact ⟨(hb.cell (p := ⟨p, o, none⟩) hp).trans h0, (hb.cell (p := ⟨p, o + 1, none⟩) hp).trans h1, (hb.cell (p := ⟨p, o + 2, none⟩) hp).trans h2, (hb.cell (p := ⟨p, o + 3, none⟩) hp).trans h3, (hb.cell (p := ⟨p, o + 4, none⟩) hp).trans h4⟩
/-- What it names may be read. -/
def KpIs (w : World) (k : Kp) : Prop := IsFs w k.fa k.fn k.F ∧ IsNs w k.ia k.m k.I
theorem KpIs.below {w w' : World} {k : Kp} (h : KpIs w k) (hb : Below w.heap.size w w') : KpIs w' k := ⟨h.1.below hb, h.2.below hb⟩
def KsAt (w : World) (b off n : Nat) (K : Nat → Kp) : Prop := ∀ i, i < n → KpAt w b (off + i * 5) (K i) ∧ KpIs w (K i)
theorem KsAt.below {w w' : World} {b off n : Nat} {K : Nat → Kp} (h : KsAt w b off n K) (hb : Below w.heap.size w w') (hl : b < w.heap.size) : KsAt w' b off n K := fun i hi => ⟨(h i hi).1.below hb hl, (h i hi).2.below hb⟩
def IsKs (w : World) (a : Option Addr) (n : Nat) (K : Nat → Kp) : Prop := n = 0 ∨ ∃ b off, a = some ⟨b, off, none⟩ ∧ b < w.heap.size ∧ KsAt w b off n K
theorem IsKs.below {w w' : World} {a : Option Addr} {n : Nat} {K : Nat → Kp} (h : IsKs w a n K) (hb : Below w.heap.size w w') : IsKs w' a n K := by
  rcases h with h | ⟨b, off, e, hl, hp⟩
  · exact .inl h
  · exact .inr ⟨b, off, e, Nat.lt_of_lt_of_le hl hb.size, hp.below hb hl⟩
/-- All within bounds. -/
def SmallK (k : Kp) : Prop := SmallFs k.fn k.F ∧ k.m ≤ 1048576
def SmallKs (n : Nat) (K : Nat → Kp) : Prop := n ≤ 1048576 ∧ ∀ i, i < n → SmallK (K i)
/-- What came in. -/
def CameK (k : Kp) : Prop := CameFs k.fn k.F ∧ k.m ≤ maxLen
def CameKs (n : Nat) (K : Nat → Kp) : Prop := n ≤ maxLen ∧ ∀ i, i < n → CameK (K i)
/-- A copy of one: its features and its Ids in blocks from B on. -/
def KpOwn (w : World) (B : Nat) (k a : Kp) : Prop :=
  (a.z = k.z ∧ a.x = k.x ∧ a.y = k.y) ∧ (∃ fb, a.fa = some ⟨fb, 0, none⟩ ∧ a.fn = k.fn ∧ a.fc = k.fn ∧ OwnFs w B fb k.fn k.F a.F) ∧
  ∃ ib, a.ia = some ⟨ib, 0, none⟩ ∧ a.m = k.m ∧ a.ic = k.m ∧ a.I = k.I ∧ B ≤ ib ∧ ib < w.heap.size ∧ NsAt w ib 0 k.m k.I
theorem KpOwn.below {w w' : World} {B : Nat} {k a : Kp} (h : KpOwn w B k a) (hb : Below w.heap.size w w') : KpOwn w' B k a := by
  obtain ⟨h1, ⟨fb, e1, e2, e3, h2⟩, ib, e4, e5, e6, e7, h3, h4, h5⟩ := h
  exact ⟨h1, ⟨fb, e1, e2, e3, h2.below hb⟩, ib, e4, e5, e6, e7, h3, Nat.lt_of_lt_of_le h4 hb.size, h5.below hb h4⟩
theorem KpOwn.mid {w w' : World} {B C lo hi : Nat} {k a : Kp} (h : KpOwn w B k a) (hM : MidB lo hi w w') (hh : hi ≤ B) (hC : C ≤ B) : KpOwn w' C k a := by
  obtain ⟨h1, ⟨fb, e1, e2, e3, h2⟩, ib, e4, e5, e6, e7, h3, h4, h5⟩ := h
  exact ⟨h1, ⟨fb, e1, e2, e3, h2.midB hM hh hC⟩, ib, e4, e5, e6, e7, by omega, Nat.lt_of_lt_of_le h4 hM.size, fun i hi => hM.cell (h5 i hi) (.inr (by omega))⟩
theorem KpOwn.is {w : World} {B : Nat} {k a : Kp} (h : KpOwn w B k a) : KpIs w a := by
  obtain ⟨_, ⟨fb, e1, e2, e3, h2⟩, ib, e4, e5, e6, e7, h3, h4, h5⟩ := h
  refine ⟨.inr ⟨fb, 0, e1, h2.2.1, ?_⟩, .inr ⟨ib, 0, e4, h4, ?_⟩⟩
  · rw [e2]; exact h2.2.2.1
  · rw [e5, e7]; exact h5
/-- A list of copies: block b below B, what they name from B on. -/
def OwnKs (w : World) (B b n : Nat) (K A : Nat → Kp) : Prop := b < B ∧ b < w.heap.size ∧ ∀ i, i < n → KpAt w b (i * 5) (A i) ∧ KpOwn w B (K i) (A i)
theorem OwnKs.below {w w' : World} {B b n : Nat} {K A : Nat → Kp} (h : OwnKs w B b n K A) (hb : Below w.heap.size w w') : OwnKs w' B b n K A :=
  ⟨h.1, Nat.lt_of_lt_of_le h.2.1 hb.size, fun i hi => ⟨(h.2.2 i hi).1.below hb h.2.1, (h.2.2 i hi).2.below hb⟩⟩
/-- Five stores: one is laid. -/
def layK (W : World) (B o : Nat) (k : Kp) : World := (((((W.setCell ⟨B, o, none⟩ (.int .i64 k.z)).setCell ⟨B, o + 1, none⟩ (.int .i64 k.x)).setCell ⟨B, o + 2, none⟩ (.int .i64 k.y)).setCell ⟨B, o + 3, none⟩ (.slice k.fa k.fn k.fc)).setCell ⟨B, o + 4, none⟩ (.slice k.ia k.m k.ic))
theorem layK_mid (W : World) (B o : Nat) (k : Kp) : MidB B (B + 1) W (layK W B o k) :=
  (((((MidB.refl B (B + 1) W).set (Nat.le_refl _) (Nat.lt_succ_self _) _ _).set (Nat.le_refl _) (Nat.lt_succ_self _) _ _).set (Nat.le_refl _) (Nat.lt_succ_self _) _ _).set (Nat.le_refl _) (Nat.lt_succ_self _) _ _).set (Nat.le_refl _) (Nat.lt_succ_self _) _ _
theorem layK_there {W : World} {B o m : Nat} {k : Kp} (h : There W B m) : There (layK W B o k) B m := by
  unfold layK
  exact (((((h.set _ _).set _ _).set _ _).set _ _).set _ _)
theorem layK_size (W : World) (B o : Nat) (k : Kp) : (layK W B o k).heap.size = W.heap.size := by unfold layK; simp
theorem layK_other {W : World} {B o : Nat} {k : Kp} {p : Addr} (h : p.block ≠ B ∨ p.off < o ∨ o + 4 < p.off) : (layK W B o k).cell? p = W.cell? p := by
  have ne : ∀ k : Nat, k ≤ 4 → (⟨B, o + k, none⟩ : Addr) ≠ p := fun k hk e => by subst e; simp at h; omega
  have ne0 : (⟨B, o, none⟩ : Addr) ≠ p := ne 0 (by omega)
  unfold layK
  rw [set1_other (ne 4 (by omega)), set1_other (ne 3 (by omega)), set1_other (ne 2 (by omega)), set1_other (ne 1 (by omega)), set1_other ne0]
theorem layK_at {W : World} {B o m : Nat} {k : Kp} (h : There W B m) (ho : o + 4 < m) : KpAt (layK W B o k) B o k := by
  have ne : ∀ i j : Nat, i ≠ j → (⟨B, i, none⟩ : Addr) ≠ ⟨B, j, none⟩ := fun i j hij h => hij (by injection h)
  obtain ⟨u0, g0⟩ := (h (o) (by omega)).1
  obtain ⟨u1, g1⟩ := ((h.set (o) (.int .i64 k.z)) (o + 1) (by omega)).1
  obtain ⟨u2, g2⟩ := (((h.set (o) (.int .i64 k.z)).set (o + 1) (.int .i64 k.x)) (o + 2) (by omega)).1
  obtain ⟨u3, g3⟩ := ((((h.set (o) (.int .i64 k.z)).set (o + 1) (.int .i64 k.x)).set (o + 2) (.int .i64 k.y)) (o + 3) (by omega)).1
  obtain ⟨u4, g4⟩ := (((((h.set (o) (.int .i64 k.z)).set (o + 1) (.int .i64 k.x)).set (o + 2) (.int .i64 k.y)).set (o + 3) (.slice k.fa k.fn k.fc)) (o + 4) (by omega)).1
  unfold layK
  refine ⟨?_, ?_, ?_, ?_, ?_⟩
  · rw [set1_other (ne (o + 4) (o) (by omega)), set1_other (ne (o + 3) (o) (by omega)), set1_other (ne (o + 2) (o) (by omega)), set1_other (ne (o + 1) (o) (by omega))]; exact set1_same g0
  · rw [set1_other (ne (o + 4) (o + 1) (by omega)), set1_other (ne (o + 3) (o + 1) (by omega)), set1_other (ne (o + 2) (o + 1) (by omega))]; exact set1_same g1
  · rw [set1_other (ne (o + 4) (o + 2) (by omega)), set1_other (ne (o + 3) (o + 2) (by omega))]; exact set1_same g2
  · rw [set1_other (ne (o + 4) (o + 3) (by omega))]; exact set1_same g3
  · exact set1_same g4
abbrev zeroKp : Array Value := #[.int .i64 0, .int .i64 0, .int .i64 0, .slice none 0 0, .slice none 0 0]
theorem info_kp : (Tryz.prog.info? 72).map (fun i => (i.zero, i.size, i.bytes)) = some (some (.agg zeroKp), 5, 72) := by kernel_rfl
theorem there5k (V : World) (a b c d e : Value) (t : TypeId) : There (V.alloc (.cells #[a, b, c, d, e] t)) V.heap.size 5 := fun o ho => by
  have hc : o = 0 ∨ o = 1 ∨ o = 2 ∨ o = 3 ∨ o = 4 := by omega
  rcases hc with rfl | rfl | rfl | rfl | rfl <;> exact ⟨⟨_, by simp [go_sem]; rfl⟩, by simp [go_sem]⟩
theorem make_kepts (n : Nat) (h : n ≤ 1048576) (w : World) :
    (Instr.makeSlice 32 (.int .i64 (n : Int)) (.int .i64 (n : Int))).run Tryz.prog w = .ok (.slice (some ⟨w.heap.size, 0, none⟩) n n) (w.alloc (.cells (madeCells zeroKp (n * 5)) 72)) := by
  obtain ⟨i, hi, hz, hs, hb⟩ := info_parts info_kp
  have hr := run_make (P := Tryz.prog) w 32 72 i _ Tryz.underlying32 hi hz .i64 .i64 (n : Int) (n : Int) (by omega) (Int.le_refl _) (by rw [hb]; omega) (by omega)
  simp only [Int.toNat_natCast, hs] at hr
  exact hr
theorem there_madeK (n : Nat) (w : World) (t : TypeId) : There (w.alloc (.cells (madeCells zeroKp n) t)) w.heap.size n := fun o ho => by
  have hz := size_madeCells zeroKp n
  refine ⟨⟨(madeCells zeroKp n)[o]'(by rw [hz]; exact ho), ?_⟩, World.frozen?_alloc_at _ _ _ _ rfl⟩
  rw [World.cell?_alloc_at _ _ _ _ rfl]
  exact Array.getElem?_eq_getElem _
theorem resTK (T : Array Value) (Wf : World) (r : Nat) (k : Kp) (hT : T[2]?.getD undef = .pointer (some ⟨r, 0, none⟩)) (h : KpAt Wf r 0 k) :
    (results Tryz.f56 T).run Tryz.prog Wf = .ok (kpV k) Wf := by
  obtain ⟨h0, h1, h2, h3, h4⟩ := h
  simp only [Nat.zero_add] at h0 h1 h2 h3 h4
  simp [results, Tryz.results56, go_sem, hT, h0, h1, h2, h3, h4]
set_option maxHeartbeats 4000000 in
theorem eqKept_any (B C : Nat) (k a c : Kp) (w : World) (ha : KpOwn w B k a) (hc : KpOwn w C k c) (hs : SmallK k) :
    Calls Tryz.prog 71 #[kpV a, kpV c] w fun e w' => e = .returned (.bool true) ∧ Below w.heap.size w w' := by
  obtain ⟨⟨e1, e2, e3⟩, ⟨fb, e4, e5, e6, hF⟩, ib, e7, e8, e9, e10, _, hib, hN⟩ := ha
  obtain ⟨⟨d1, d2, d3⟩, ⟨fd, d4, d5, d6, hG⟩, id, d7, d8, d9, d10, _, hid, hM⟩ := hc
  unfold kpV
  rw [e1, e2, e3, e4, e5, e6, e7, e8, e9, d1, d2, d3, d4, d5, d6, d7, d8, d9]
  have HF : Hid (OwnFs w B fb k.fn k.F a.F) := hF
  have HG : Hid (OwnFs w C fd k.fn k.F c.F) := hG
  have HN : Hid (IsNs w (some ⟨ib, 0, none⟩) k.m k.I) := hN.is hib
  have HM : Hid (IsNs w (some ⟨id, 0, none⟩) k.m k.I) := hM.is hid
  have HS : Hid (SmallK k) := hs
  clear hF hG hN hM hs e1 e2 e3 e4 e5 e6 e7 e8 e9 e10 d1 d2 d3 d4 d5 d6 d7 d8 d9 d10 hib hid
  go_enter Tryz.func71, Tryz.ntmps71
  go_wp2_with fail
  generalize hW : ((w.alloc _).alloc _ : World) = W
  have hB0 : Below w.heap.size w W := by subst hW; (repeat (first | exact Below.refl _ _ | assumption | refine Below.drew ?_ | refine bl_alloc ?_ _ | refine bl_then ?_ (by assumption) | refine Below.setCell ?_ (by first | omega | (simp; done) | (simp; omega)) _ | refine bl_store ?_ ?_ _ _))
  have c4 : ∀ W', Below W.heap.size W W' → W'.cell? ⟨w.heap.size, 4, none⟩ = some (.slice (some ⟨ib, 0, none⟩) k.m k.m) := fun W' h => by rw [h.cell (by subst hW; simp; omega)]; subst hW; simp [go_sem]
  have d4 : ∀ W', Below W.heap.size W W' → W'.cell? ⟨w.heap.size + 1, 4, none⟩ = some (.slice (some ⟨id, 0, none⟩) k.m k.m) := fun W' h => by rw [h.cell (by subst hW; simp)]; subst hW; simp [go_sem]
  clear hW
  refine (eqTile_any k.z k.x k.y fb fd k.fn B C k.F a.F c.F W (HF.out.below hB0) (HG.out.below hB0) HS.out.1).mono ?_
  rintro e w1 ⟨rfl, hb1⟩
  have g4 := c4 w1 hb1
  have l4 := d4 w1 hb1
  have hB1 : Below w.heap.size w w1 := bl_then hB0 hb1
  clear c4 d4 hb1 hB0
  go_wp2_with fail
  refine (eqInt64S_any _ _ k.m _ _ k.I _ (HN.out.below hB1) (HM.out.below hB1) HS.out.2).mono ?_
  rintro e w2 ⟨rfl, hb2⟩
  have HB2 : Hid (Below w.heap.size w w2) := bl_then hB1 hb2
  clear hb2
  go_wp2
  go_ret
  exact ⟨rfl, HB2.out⟩
end Go.Proofs.YtciidkmonfmipaaGreat
/- Caches are measured, copied and compared. -/

namespace Go.Proofs.YtciidkmonfmipaaGreat
open Go.RowKit
set_option linter.unusedSimpArgs false
set_option linter.unusedVariables false
set_option maxRecDepth 100000

/-- A cache as a value. -/
abbrev caV (s : Int) (v : Value) : Value := .agg #[.int .i64 s, v]
set_option maxHeartbeats 4000000 in
theorem eqKeptS_any (B C b d n : Nat) (K A H : Nat → Kp) (w : World) (ha : OwnKs w B b n K A) (hh : OwnKs w C d n K H) (hs : SmallKs n K) :
    Calls Tryz.prog 35 #[.slice (some ⟨b, 0, none⟩) n n, .slice (some ⟨d, 0, none⟩) n n] w fun e w' => e = .returned (.bool true) ∧ Below w.heap.size w w' := by
  have HA : Hid (OwnKs w B b n K A) := ha
  have HH : Hid (OwnKs w C d n K H) := hh
  have HS : Hid (SmallKs n K) := hs
  have hn := hs.1
  clear ha hh hs
  go_enter Tryz.func35, Tryz.ntmps35
  go_wp2
  go_loopw [5] (fun i wr => ∃ k : Nat, k ≤ n ∧ i = .int .i64 k ∧ Below w.heap.size w wr) (fun i _ => n - (intOf i).toNat)
  case atStart => exact ⟨0, by omega, rfl, Below.refl _ _⟩
  case round =>
    obtain ⟨k, hk, rfl, hB⟩ := hrel
    by_cases hlt : k < n
    · have HAr : Hid (OwnKs wr B b n K A) := HA.out.below hB
      have HHr : Hid (OwnKs wr C d n K H) := HH.out.below hB
      have a0 : ∀ W', Below wr.heap.size wr W' → W'.cell? ⟨b, k * 5, none⟩ = some (.int .i64 (A k).z) := fun W' h => ((HAr.out.below h).2.2 k hlt).1.1
      have a1 : ∀ W', Below wr.heap.size wr W' → W'.cell? ⟨b, k * 5 + 1, none⟩ = some (.int .i64 (A k).x) := fun W' h => ((HAr.out.below h).2.2 k hlt).1.2.1
      have a2 : ∀ W', Below wr.heap.size wr W' → W'.cell? ⟨b, k * 5 + 2, none⟩ = some (.int .i64 (A k).y) := fun W' h => ((HAr.out.below h).2.2 k hlt).1.2.2.1
      have a3 : ∀ W', Below wr.heap.size wr W' → W'.cell? ⟨b, k * 5 + 3, none⟩ = some (.slice (A k).fa (A k).fn (A k).fc) := fun W' h => ((HAr.out.below h).2.2 k hlt).1.2.2.2.1
      have a4 : ∀ W', Below wr.heap.size wr W' → W'.cell? ⟨b, k * 5 + 4, none⟩ = some (.slice (A k).ia (A k).m (A k).ic) := fun W' h => ((HAr.out.below h).2.2 k hlt).1.2.2.2.2
      have h0 : ∀ W', Below wr.heap.size wr W' → W'.cell? ⟨d, k * 5, none⟩ = some (.int .i64 (H k).z) := fun W' h => ((HHr.out.below h).2.2 k hlt).1.1
      have h1 : ∀ W', Below wr.heap.size wr W' → W'.cell? ⟨d, k * 5 + 1, none⟩ = some (.int .i64 (H k).x) := fun W' h => ((HHr.out.below h).2.2 k hlt).1.2.1
      have h2 : ∀ W', Below wr.heap.size wr W' → W'.cell? ⟨d, k * 5 + 2, none⟩ = some (.int .i64 (H k).y) := fun W' h => ((HHr.out.below h).2.2 k hlt).1.2.2.1
      have h3 : ∀ W', Below wr.heap.size wr W' → W'.cell? ⟨d, k * 5 + 3, none⟩ = some (.slice (H k).fa (H k).fn (H k).fc) := fun W' h => ((HHr.out.below h).2.2 k hlt).1.2.2.2.1
      have h4 : ∀ W', Below wr.heap.size wr W' → W'.cell? ⟨d, k * 5 + 4, none⟩ = some (.slice (H k).ia (H k).m (H k).ic) := fun W' h => ((HHr.out.below h).2.2 k hlt).1.2.2.2.2
      have HEQ : Hid (∀ W', Below wr.heap.size wr W' → Calls Tryz.prog 71 #[kpV (A k), kpV (H k)] W' fun e w' => e = .returned (.bool true) ∧ Below W'.heap.size W' w') := fun W' h => eqKept_any B C (K k) (A k) (H k) W' ((HAr.out.below h).2.2 k hlt).2 ((HHr.out.below h).2.2 k hlt).2 (HS.out.2 k hlt)
      have HB : Hid (Below w.heap.size w wr) := hB
      have HLT : Hid (k < n) := hlt
      have hr : Below wr.heap.size wr wr := Below.refl _ _
      clear hB
      have hi : (k : Int) < (n : Int) := by omega
      have hi0 : (0 : Int) ≤ (k : Int) := by omega
      go_wp2
      go_region_held3 (fun W' => Below wr.heap.size wr W') ((repeat (first | exact Below.refl _ _ | assumption | refine Below.drew ?_ | refine bl_alloc ?_ _ | refine bl_then ?_ (by assumption) | refine Below.setCell ?_ (by first | omega | (simp; done) | (simp; omega)) _ | refine bl_store ?_ ?_ _ _)))
        (first
          | (go_at_call 71; refine (HEQ.out _ (by assumption)).mono ?_; rintro e w' ⟨rfl, hb⟩)
          | fail)
      go_wp2
      go_roundw
      case rel => exact ⟨k + 1, by have := HLT.out; omega, by go_num, bl_then HB.out (by assumption)⟩
      case measure => have := HLT.out; simp [intOf]; omega
    · go_wp2
      go_ret
      exact ⟨rfl, hB⟩
set_option maxHeartbeats 2000000 in
theorem szTile_l (z x y : Int) (a : Option Addr) (n cap left : Nat) (F : Nat → Feat) (w : World) (hl : left ≤ 1048576) (hf : IsFs w a n F) (hc : CameFs n F) :
    Calls Tryz.prog 7 #[tileV z x y (.slice a n cap), .int .i64 (left : Int)] w fun e w' => (e = .returned (.int .i64 (-1)) ∨ ∃ m : Nat, m ≤ left ∧ SmallFs n F ∧ e = .returned (.int .i64 m)) ∧ Below w.heap.size w w' := by
  have HF : Hid (IsFs w a n F) := hf
  have HC : Hid (CameFs n F) := hc
  clear hf hc
  go_enter Tryz.func7, Tryz.ntmps7
  go_wp2_with fail
  generalize hW : (w.alloc _ : World) = W
  have hB0 : Below w.heap.size w W := by subst hW; (repeat (first | exact Below.refl _ _ | assumption | refine Below.drew ?_ | refine bl_alloc ?_ _ | refine bl_then ?_ (by assumption) | refine Below.setCell ?_ (by first | omega | (simp; done) | (simp; omega)) _ | refine bl_store ?_ ?_ _ _))
  clear hW
  refine (szFeatureS_any a n cap F left _ hl (HF.out.below hB0) HC.out).mono ?_
  rintro e w1 ⟨rfl | ⟨m, hm, hS, rfl⟩, hb1⟩
  · go_wp2
    go_ret
    exact ⟨.inl rfl, by (repeat (first | exact Below.refl _ _ | assumption | refine Below.drew ?_ | refine bl_alloc ?_ _ | refine bl_then ?_ (by assumption) | refine Below.setCell ?_ (by first | omega | (simp; done) | (simp; omega)) _ | refine bl_store ?_ ?_ _ _))⟩
  · have hneg : ¬ ((m : Nat) : Int) < 0 := by omega
    have HS : Hid (SmallFs n F) := hS
    clear hS
    go_wp2
    go_ret
    exact ⟨.inr ⟨m, hm, HS.out, rfl⟩, by (repeat (first | exact Below.refl _ _ | assumption | refine Below.drew ?_ | refine bl_alloc ?_ _ | refine bl_then ?_ (by assumption) | refine Below.setCell ?_ (by first | omega | (simp; done) | (simp; omega)) _ | refine bl_store ?_ ?_ _ _))⟩
theorem szInt64S_l (a : Option Addr) (n cap left : Nat) (w : World) (hl : left ≤ 1048576) (hn : n ≤ maxLen) :
    Calls Tryz.prog 78 #[.slice a n cap, .int .i64 (left : Int)] w fun e w' => (e = .returned (.int .i64 (-1)) ∨ ∃ m : Nat, m ≤ left ∧ n ≤ 1048576 ∧ e = .returned (.int .i64 m)) ∧ Below w.heap.size w w' := by
  unfold maxLen at hn
  by_cases h : left < n
  · have hneg : (left : Int) - (n : Int) < 0 := by omega
    go_enter Tryz.func78, Tryz.ntmps78
    go_wp2
    go_ret
    exact ⟨.inl rfl, by (repeat (first | exact Below.refl _ _ | assumption | refine Below.drew ?_ | refine bl_alloc ?_ _ | refine bl_then ?_ (by assumption) | refine Below.setCell ?_ (by first | omega | (simp; done) | (simp; omega)) _ | refine bl_store ?_ ?_ _ _))⟩
  · have hneg : ¬ (left : Int) - (n : Int) < 0 := by omega
    go_enter Tryz.func78, Tryz.ntmps78
    go_wp2
    go_ret
    exact ⟨.inr ⟨left - n, by omega, by omega, ret_int (by omega)⟩, by (repeat (first | exact Below.refl _ _ | assumption | refine Below.drew ?_ | refine bl_alloc ?_ _ | refine bl_then ?_ (by assumption) | refine Below.setCell ?_ (by first | omega | (simp; done) | (simp; omega)) _ | refine bl_store ?_ ?_ _ _))⟩
set_option maxHeartbeats 2000000 in
theorem szKept_l (k : Kp) (left : Nat) (w : World) (hl : left ≤ 1048576) (hk : KpIs w k) (hc : CameK k) :
    Calls Tryz.prog 47 #[kpV k, .int .i64 (left : Int)] w fun e w' => (e = .returned (.int .i64 (-1)) ∨ ∃ m : Nat, m ≤ left ∧ SmallK k ∧ e = .returned (.int .i64 m)) ∧ Below w.heap.size w w' := by
  have HK : Hid (KpIs w k) := hk
  have HC : Hid (CameK k) := hc
  clear hk hc
  go_enter Tryz.func47, Tryz.ntmps47
  go_wp2_with fail
  generalize hW : (w.alloc _ : World) = W
  have hB0 : Below w.heap.size w W := by subst hW; (repeat (first | exact Below.refl _ _ | assumption | refine Below.drew ?_ | refine bl_alloc ?_ _ | refine bl_then ?_ (by assumption) | refine Below.setCell ?_ (by first | omega | (simp; done) | (simp; omega)) _ | refine bl_store ?_ ?_ _ _))
  have c4 : ∀ W', Below W.heap.size W W' → W'.cell? ⟨w.heap.size, 4, none⟩ = some (.slice k.ia k.m k.ic) := fun W' h => by rw [h.cell (by subst hW; simp)]; subst hW; simp [go_sem]
  clear hW
  refine (szTile_l k.z k.x k.y k.fa k.fn k.fc left k.F W hl (HK.out.below hB0).1 HC.out.1).mono ?_
  rintro e w1 ⟨rfl | ⟨m, hm, hS, rfl⟩, hb1⟩
  · go_wp2
    go_ret
    exact ⟨.inl rfl, bl_then hB0 hb1⟩
  · have hneg : ¬ ((m : Nat) : Int) < 0 := by omega
    have g4 := c4 w1 hb1
    have HS : Hid (SmallFs k.fn k.F) := hS
    have hB1 : Below w.heap.size w w1 := bl_then hB0 hb1
    clear hS hb1 hB0 c4
    go_wp2_with fail
    refine (szInt64S_l k.ia k.m k.ic m w1 (by omega) HC.out.2).mono ?_
    rintro e w2 ⟨rfl | ⟨q, hq, hS2, rfl⟩, hb2⟩
    · go_wp2
      go_ret
      exact ⟨.inl rfl, bl_then hB1 hb2⟩
    · have hneg2 : ¬ ((q : Nat) : Int) < 0 := by omega
      have HS2 : Hid (k.m ≤ 1048576) := hS2
      clear hS2
      go_wp2
      go_ret
      exact ⟨.inr ⟨q, by omega, ⟨HS.out, HS2.out⟩, rfl⟩, bl_then hB1 hb2⟩
set_option maxHeartbeats 4000000 in
theorem szKeptS_l (a : Option Addr) (n cap left : Nat) (K : Nat → Kp) (w : World) (hl : left ≤ 1048576) (hk : IsKs w a n K) (hc : CameKs n K) :
    Calls Tryz.prog 24 #[.slice a n cap, .int .i64 (left : Int)] w fun e w' => (e = .returned (.int .i64 (-1)) ∨ ∃ m : Nat, m ≤ left ∧ SmallKs n K ∧ e = .returned (.int .i64 m)) ∧ Below w.heap.size w w' := by
  have HK : Hid (IsKs w a n K) := hk
  obtain ⟨hc1, hc2⟩ := hc
  have HC : Hid (∀ i, i < n → CameK (K i)) := hc2
  unfold maxLen at hc1
  clear hk hc2
  by_cases h : left < n
  · have hneg : (left : Int) - (n : Int) < 0 := by omega
    go_enter Tryz.func24, Tryz.ntmps24
    go_wp2
    go_ret
    exact ⟨.inl rfl, by (repeat (first | exact Below.refl _ _ | assumption | refine Below.drew ?_ | refine bl_alloc ?_ _ | refine bl_then ?_ (by assumption) | refine Below.setCell ?_ (by first | omega | (simp; done) | (simp; omega)) _ | refine bl_store ?_ ?_ _ _))⟩
  · have hneg : ¬ (left : Int) - (n : Int) < 0 := by omega
    go_enter Tryz.func24, Tryz.ntmps24
    go_wp2_with fail
    go_loopw [1, 5] (fun v i wr => ∃ k m : Nat, k ≤ n ∧ i = .int .i64 (k : Int) ∧ v = .int .i64 (m : Int) ∧ m ≤ left ∧ (∀ j, j < k → SmallK (K j)) ∧ Below w.heap.size w wr) (fun _ i _ => n - (intOf i).toNat)
    case atStart => exact ⟨0, left - n, by omega, rfl, by congr 1; omega, by omega, fun j hj => absurd hj (Nat.not_lt_zero _), Below.refl _ _⟩
    case round =>
      obtain ⟨k, m, hk, rfl, rfl, hm, hS, hB⟩ := hrel
      have HS : Hid (∀ j, j < k → SmallK (K j)) := hS
      have HB : Hid (Below w.heap.size w wr) := hB
      clear hS
      by_cases hlt : k < n
      · rcases HK.out with h0 | ⟨b, off, rfl, hbl, hpt⟩
        · omega
        obtain ⟨⟨f0, f1, f2, f3, f4⟩, hkis⟩ := (hpt.below hB hbl) k hlt
        have HKI : Hid (KpIs wr (K k)) := hkis
        have HLT : Hid (k < n) := hlt
        have hi : (k : Int) < (n : Int) := by omega
        have hi0 : (0 : Int) ≤ (k : Int) := by omega
        clear hB hpt hkis
        go_wp2_with fail
        refine (szKept_l (K k) m _ (by omega) HKI.out (HC.out k hlt)).mono ?_
        rintro e w1 ⟨rfl | ⟨q, hq, hS1, rfl⟩, hb1⟩
        · go_wp2
          go_ret
          exact ⟨.inl rfl, bl_then HB.out hb1⟩
        · have hneg2 : ¬ ((q : Nat) : Int) < 0 := by omega
          have HS1 : Hid (SmallK (K k)) := hS1
          have HB1 : Hid (Below w.heap.size w w1) := bl_then HB.out hb1
          clear hS1 hb1 f0 f1 f2 f3 f4
          go_wp2_with fail
          go_roundw
          case rel => exact ⟨k + 1, q, by have := HLT.out; omega, by go_num, rfl, by omega, fun j hj => by
              by_cases e : j = k
              · rw [e]; exact HS1.out
              · exact HS.out j (by omega), HB1.out⟩
          case measure => have := HLT.out; simp [intOf]; omega
      · obtain rfl : n = k := by omega
        go_wp2
        go_ret
        exact ⟨.inr ⟨m, hm, ⟨by omega, HS.out⟩, rfl⟩, HB.out⟩
set_option maxHeartbeats 2000000 in
theorem szCache_any (s : Int) (a : Option Addr) (n cap : Nat) (K : Nat → Kp) (w : World) (hk : IsKs w a n K) (hc : CameKs n K) :
    Calls Tryz.prog 6 #[caV s (.slice a n cap), .int .i64 1048576] w fun e w' => (e = .returned (.int .i64 (-1)) ∨ ∃ m : Nat, SmallKs n K ∧ e = .returned (.int .i64 m)) ∧ Below w.heap.size w w' := by
  have HK : Hid (IsKs w a n K) := hk
  have HC : Hid (CameKs n K) := hc
  clear hk hc
  go_enter Tryz.func6, Tryz.ntmps6
  go_wp2_with fail
  generalize hW : (w.alloc _ : World) = W
  have hB0 : Below w.heap.size w W := by subst hW; (repeat (first | exact Below.refl _ _ | assumption | refine Below.drew ?_ | refine bl_alloc ?_ _ | refine bl_then ?_ (by assumption) | refine Below.setCell ?_ (by first | omega | (simp; done) | (simp; omega)) _ | refine bl_store ?_ ?_ _ _))
  clear hW
  refine (szKeptS_l a n cap 1048576 K W (by omega) (HK.out.below hB0) HC.out).mono ?_
  rintro e w1 ⟨rfl | ⟨m, hm, hS, rfl⟩, hb1⟩
  · go_wp2
    go_ret
    exact ⟨.inl rfl, bl_then hB0 hb1⟩
  · have hneg : ¬ ((m : Nat) : Int) < 0 := by omega
    have HS : Hid (SmallKs n K) := hS
    clear hS
    go_wp2
    go_ret
    exact ⟨.inr ⟨m, HS.out, rfl⟩, bl_then hB0 hb1⟩
theorem OwnKs.mid {w w' : World} {B C b n lo hi : Nat} {K A : Nat → Kp} (h : OwnKs w B b n K A) (hM : MidB lo hi w w') (hh : hi ≤ b) : OwnKs w' B b n K A :=
  ⟨h.1, Nat.lt_of_lt_of_le h.2.1 hM.size, fun i hi' => by
    obtain ⟨⟨h0, h1, h2, h3, h4⟩, h5⟩ := h.2.2 i hi'
    exact ⟨⟨hM.cell h0 (.inr hh), hM.cell h1 (.inr hh), hM.cell h2 (.inr hh), hM.cell h3 (.inr hh), hM.cell h4 (.inr hh)⟩, h5.mid hM (by have := h.1; omega) (Nat.le_refl _)⟩⟩
theorem there2k (V : World) (a b : Value) (t : TypeId) : There (V.alloc (.cells #[a, b] t)) V.heap.size 2 := fun o ho => by
  have hc : o = 0 ∨ o = 1 := by omega
  rcases hc with rfl | rfl <;> exact ⟨⟨_, by simp [go_sem]; rfl⟩, by simp [go_sem]⟩
theorem resTC {T : Array Value} {Wf : World} {r : Nat} {s : Int} {v : Value} (hT : T[2]?.getD undef = .pointer (some ⟨r, 0, none⟩)) (h0 : Wf.cell? ⟨r, 0, none⟩ = some (.int .i64 s)) (h1 : Wf.cell? ⟨r, 1, none⟩ = some v) :
    (results Tryz.f9 T).run Tryz.prog Wf = .ok (caV s v) Wf := by
  simp [results, Tryz.results9, go_sem, hT, h0, h1]
set_option maxHeartbeats 2000000 in
theorem eqCache_any (s : Int) (B C b d n : Nat) (K A H : Nat → Kp) (w : World) (ha : OwnKs w B b n K A) (hh : OwnKs w C d n K H) (hs : SmallKs n K) :
    Calls Tryz.prog 13 #[caV s (.slice (some ⟨b, 0, none⟩) n n), caV s (.slice (some ⟨d, 0, none⟩) n n)] w fun e w' => e = .returned (.bool true) ∧ Below w.heap.size w w' := by
  have HA : Hid (OwnKs w B b n K A) := ha
  have HH : Hid (OwnKs w C d n K H) := hh
  clear ha hh
  go_enter Tryz.func13, Tryz.ntmps13
  go_wp2_with fail
  generalize hW : ((w.alloc _).alloc _ : World) = W
  have hB0 : Below w.heap.size w W := by subst hW; (repeat (first | exact Below.refl _ _ | assumption | refine Below.drew ?_ | refine bl_alloc ?_ _ | refine bl_then ?_ (by assumption) | refine Below.setCell ?_ (by first | omega | (simp; done) | (simp; omega)) _ | refine bl_store ?_ ?_ _ _))
  clear hW
  refine (eqKeptS_any B C b d n K A H W (HA.out.below hB0) (HH.out.below hB0) hs).mono ?_
  rintro e w1 ⟨rfl, hb1⟩
  go_wp2
  go_ret
  exact ⟨rfl, bl_then hB0 hb1⟩
end Go.Proofs.YtciidkmonfmipaaGreat
