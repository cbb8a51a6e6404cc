/- Lists of features: how they lie in memory; the copy of a list; its size. -/
import Derived.Test.YtdohlnnbibnnbaaGreatVPlaceLabels6
import Derived.Deep.RegionHeld3
namespace Go.Proofs.YtdohlnnbibnnbaaGreat
open Go.RowKit
set_option linter.unusedSimpArgs false
set_option linter.unusedVariables false
set_option maxRecDepth 100000

/-- A feature as it lies: its numbers, where its points are, its points, its label. -/
structure Feat where
  id : Int
  la : Int
  ki : Int
  wi : Int
  a : Option Addr
  n : Nat
  cap : Nat
  X : Nat → Int
  Y : Nat → Int
  lab : ByteArray
  pr : Int
/-- From the address on lie n features. -/
def FsAt (w : World) (b off n : Nat) (F : Nat → Feat) : Prop :=
  ∀ i, i < n → FeatAt w b (off + i * 7) (F i).id (F i).la (F i).ki (F i).wi (.slice (F i).a (F i).n (F i).cap) (F i).lab (F i).pr ∧ IsPts w (F i).a (F i).n (F i).X (F i).Y
theorem FsAt.below {w w' : World} {b off n : Nat} {F : Nat → Feat} (h : FsAt w b off n F) (hb : Below w.heap.size w w') (hl : b < w.heap.size) : FsAt w' b off n F := fun i hi =>
  ⟨(h i hi).1.below hb hl, (h i hi).2.below hb⟩
def IsFs (w : World) (a : Option Addr) (n : Nat) (F : Nat → Feat) : Prop := n = 0 ∨ ∃ b off, a = some ⟨b, off, none⟩ ∧ b < w.heap.size ∧ FsAt w b off n F
theorem IsFs.below {w w' : World} {a : Option Addr} {n : Nat} {F : Nat → Feat} (h : IsFs w a n F) (hb : Below w.heap.size w w') : IsFs w' a n F := by
  rcases h with h | ⟨b, off, e, hl, hp⟩
  · exact .inl h
  · exact .inr ⟨b, off, e, Nat.lt_of_lt_of_le hl hb.size, hp.below hb hl⟩
/-- The same feature, wherever its points lie. -/
def Feat.same (f g : Feat) : Prop := f.id = g.id ∧ f.la = g.la ∧ f.ki = g.ki ∧ f.wi = g.wi ∧ f.n = g.n ∧ f.X = g.X ∧ f.Y = g.Y ∧ f.lab = g.lab ∧ f.pr = g.pr
/-- A list of its own: block b, and each feature's points in a block of their own, from B on. -/
def OwnFs (w : World) (B b n : Nat) (F G : Nat → Feat) : Prop :=
  B ≤ b ∧ b < w.heap.size ∧ FsAt w b 0 n G ∧ ∀ i, i < n → (G i).same (F i) ∧ ∃ q, (G i).a = some ⟨q, 0, none⟩ ∧ (G i).cap = (G i).n ∧ q ≠ b ∧ B ≤ q ∧ q < w.heap.size ∧ PtsAt w q 0 (G i).n (G i).X (G i).Y
theorem OwnFs.below {w w' : World} {B b n : Nat} {F G : Nat → Feat} (h : OwnFs w B b n F G) (hb : Below w.heap.size w w') : OwnFs w' B b n F G := by
  obtain ⟨h1, h2, h3, h4⟩ := h
  refine ⟨h1, Nat.lt_of_lt_of_le h2 hb.size, h3.below hb h2, fun i hi => ?_⟩
  obtain ⟨e, q, e1, e2, e3, e4, e5, e6⟩ := h4 i hi
  exact ⟨e, q, e1, e2, e3, e4, Nat.lt_of_lt_of_le e5 hb.size, e6.below hb e5⟩

/-- Seven stores: a feature is laid. -/
def lay7 (W : World) (B o : Nat) (f : Feat) : World := (((((((W.setCell ⟨B, o, none⟩ (.int .i64 f.id)).setCell ⟨B, o + 1, none⟩ (.int .i64 f.la)).setCell ⟨B, o + 2, none⟩ (.int .i64 f.ki)).setCell ⟨B, o + 3, none⟩ (.int .i64 f.wi)).setCell ⟨B, o + 4, none⟩ (.slice f.a f.n f.cap)).setCell ⟨B, o + 5, none⟩ (.string f.lab)).setCell ⟨B, o + 6, none⟩ (.int .i64 f.pr))

theorem lay7_other {W : World} {B o : Nat} {f : Feat} {p : Addr} (h : p.block ≠ B ∨ p.off < o ∨ o + 6 < p.off) : (lay7 W B o f).cell? p = W.cell? p := by
  have ne : ∀ k : Nat, k ≤ 6 → (⟨B, o + k, none⟩ : Addr) ≠ p := fun k hk e => by subst e; simp at h; omega
  have ne0 : (⟨B, o, none⟩ : Addr) ≠ p := ne 0 (by omega)
  unfold lay7
  rw [set1_other (ne 6 (by omega)), set1_other (ne 5 (by omega)), set1_other (ne 4 (by omega)), set1_other (ne 3 (by omega)), set1_other (ne 2 (by omega)), set1_other (ne 1 (by omega)), set1_other ne0]
theorem lay7_there {W : World} {B o m : Nat} {f : Feat} (h : There W B m) : There (lay7 W B o f) B m := by
  unfold lay7
  exact ((((((h.set _ _).set _ _).set _ _).set _ _).set _ _).set _ _).set _ _
theorem lay7_at {W : World} {B o m : Nat} {f : Feat} (h : There W B m) (ho : o + 6 < m) : FeatAt (lay7 W B o f) B o f.id f.la f.ki f.wi (.slice f.a f.n f.cap) f.lab f.pr := by
  have ne : ∀ i j : Nat, i ≠ j → (⟨B, i, none⟩ : Addr) ≠ ⟨B, j, none⟩ := fun i j hij h => hij (by injection h)
  obtain ⟨u0, g0⟩ := (h (o) (by omega)).1
  obtain ⟨u1, g1⟩ := ((h.set (o) (.int .i64 f.id)) (o + 1) (by omega)).1
  obtain ⟨u2, g2⟩ := (((h.set (o) (.int .i64 f.id)).set (o + 1) (.int .i64 f.la)) (o + 2) (by omega)).1
  obtain ⟨u3, g3⟩ := ((((h.set (o) (.int .i64 f.id)).set (o + 1) (.int .i64 f.la)).set (o + 2) (.int .i64 f.ki)) (o + 3) (by omega)).1
  obtain ⟨u4, g4⟩ := (((((h.set (o) (.int .i64 f.id)).set (o + 1) (.int .i64 f.la)).set (o + 2) (.int .i64 f.ki)).set (o + 3) (.int .i64 f.wi)) (o + 4) (by omega)).1
  obtain ⟨u5, g5⟩ := ((((((h.set (o) (.int .i64 f.id)).set (o + 1) (.int .i64 f.la)).set (o + 2) (.int .i64 f.ki)).set (o + 3) (.int .i64 f.wi)).set (o + 4) (.slice f.a f.n f.cap)) (o + 5) (by omega)).1
  obtain ⟨u6, g6⟩ := (((((((h.set (o) (.int .i64 f.id)).set (o + 1) (.int .i64 f.la)).set (o + 2) (.int .i64 f.ki)).set (o + 3) (.int .i64 f.wi)).set (o + 4) (.slice f.a f.n f.cap)).set (o + 5) (.string f.lab)) (o + 6) (by omega)).1
  unfold lay7
  refine ⟨?_, ?_, ?_, ?_, ?_, ?_, ?_⟩
  · rw [set1_other (ne _ _ (by omega)), set1_other (ne _ _ (by omega)), set1_other (ne _ _ (by omega)), set1_other (ne _ _ (by omega)), set1_other (ne _ _ (by omega)), set1_other (ne _ _ (by omega))]; exact set1_same g0
  · rw [set1_other (ne _ _ (by omega)), set1_other (ne _ _ (by omega)), set1_other (ne _ _ (by omega)), set1_other (ne _ _ (by omega)), set1_other (ne _ _ (by omega))]; exact set1_same g1
  · rw [set1_other (ne _ _ (by omega)), set1_other (ne _ _ (by omega)), set1_other (ne _ _ (by omega)), set1_other (ne _ _ (by omega))]; exact set1_same g2
  · rw [set1_other (ne _ _ (by omega)), set1_other (ne _ _ (by omega)), set1_other (ne _ _ (by omega))]; exact set1_same g3
  · rw [set1_other (ne _ _ (by omega)), set1_other (ne _ _ (by omega))]; exact set1_same g4
  · rw [set1_other (ne _ _ (by omega))]; exact set1_same g5
  · exact set1_same g6
theorem lay7_size (W : World) (B o : Nat) (f : Feat) : (lay7 W B o f).heap.size = W.heap.size := by unfold lay7; simp
theorem lay7_below {V W : World} {n B o : Nat} {f : Feat} (h : Below n V W) (hB : n ≤ B) : Below n V (lay7 W B o f) := by
  unfold lay7
  exact ((((((h.setCell hB _).setCell hB _).setCell hB _).setCell hB _).setCell hB _).setCell hB _).setCell hB _
theorem PtsAt.lay {W : World} {b off n : Nat} {X Y : Nat → Int} (h : PtsAt W b off n X Y) {B o : Nat} {f : Feat} (hne : B ≠ b) : PtsAt (lay7 W B o f) b off n X Y := by
  unfold lay7
  exact ((((((h.store hne).store hne).store hne).store hne).store hne).store hne).store hne

theorem info_if : (Tryz.prog.info? 36).map (fun i => (i.zero, i.size, i.bytes)) = some (some (.agg #[.int .i64 0, .int .i64 0, .int .i64 0, .int .i64 0, .slice none 0 0, .string ⟨#[]⟩, .int .i64 0]), 7, 80) := by kernel_rfl
abbrev zeroF : Array Value := #[.int .i64 0, .int .i64 0, .int .i64 0, .int .i64 0, .slice none 0 0, .string ⟨#[]⟩, .int .i64 0]
theorem make_feats (n : Nat) (h : n ≤ 1048576) (w : World) :
    (Instr.makeSlice 24 (.int .i64 (n : Int)) (.int .i64 (n : Int))).run Tryz.prog w = .ok (.slice (some ⟨w.heap.size, 0, none⟩) n n) (w.alloc (.cells (madeCells zeroF (n * 7)) 36)) := by
  obtain ⟨i, hi, hz, hs, hb⟩ := info_parts info_if
  have hr := run_make (P := Tryz.prog) w 24 36 i _ Tryz.underlying24 hi hz .i64 .i64 (n : Int) (n : Int) (by omega) (Int.le_refl _) (by rw [hb]; omega) (by omega)
  simp only [Int.toNat_natCast, hs] at hr
  exact hr
theorem there_madeF (n : Nat) (w : World) (t : TypeId) : There (w.alloc (.cells (madeCells zeroF n) t)) w.heap.size n := fun o ho => by
  have hz := size_madeCells zeroF n
  refine ⟨⟨(madeCells zeroF n)[o]'(by rw [hz]; exact ho), ?_⟩, World.frozen?_alloc_at _ _ _ _ rfl⟩
  rw [World.cell?_alloc_at _ _ _ _ rfl]
  exact Array.getElem?_eq_getElem _

theorem own_lay {W : World} {B n k q : Nat} {F G : Nat → Feat} (h : OwnFs W B B k F G) (hT : There W B (n * 7)) (hk : k < n) (hqB : B ≤ q) (hq : q < W.heap.size) (hp : PtsAt W q 0 (F k).n (F k).X (F k).Y) (hne : q ≠ B) :
    OwnFs (lay7 W B (k * 7) { F k with a := some ⟨q, 0, none⟩, cap := (F k).n }) B B (k + 1) F (fun i => if i = k then { F k with a := some ⟨q, 0, none⟩, cap := (F k).n } else G i) := by
  obtain ⟨h1, h2, h3, h4⟩ := h
  refine ⟨h1, by rw [lay7_size]; exact h2, fun i hi => ?_, fun i hi => ?_⟩
  · by_cases e : i = k
    · subst e
      simp only [if_pos, Nat.zero_add]
      refine ⟨lay7_at hT (by omega), .inr ⟨q, 0, rfl, by rw [lay7_size]; exact hq, hp.lay (fun h => hne h.symm)⟩⟩
    · simp only [if_neg e]
      obtain ⟨c, ip⟩ := h3 i (by omega)
      obtain ⟨_, q', e1, e2, e3, e4, e5, e6⟩ := h4 i (by omega)
      refine ⟨?_, ?_⟩
      · obtain ⟨c0, c1, c2, c3, c4, c5, c6⟩ := c
        refine ⟨?_, ?_, ?_, ?_, ?_, ?_, ?_⟩ <;> (rw [lay7_other (by right; left; simp; omega)]; assumption)
      · exact .inr ⟨q', 0, e1, by rw [lay7_size]; exact e5, e6.lay (fun h => e3 h.symm)⟩
  · by_cases e : i = k
    · subst e
      simp only [if_pos]
      exact ⟨⟨rfl, rfl, rfl, rfl, rfl, rfl, rfl, rfl, rfl⟩, q, by first | rfl | trivial, by first | trivial | rfl, hne, hqB, by rw [lay7_size]; exact hq, hp.lay (fun h => hne h.symm)⟩
    · simp only [if_neg e]
      obtain ⟨sm, q', e1, e2, e3, e4, e5, e6⟩ := h4 i (by omega)
      exact ⟨sm, q', e1, e2, e3, e4, by rw [lay7_size]; exact e5, e6.lay (fun h => e3 h.symm)⟩

set_option maxHeartbeats 4000000 in
theorem toFeatureS_any (a : Option Addr) (n cap : Nat) (F : Nat → Feat) (w : World) (hp : IsFs w a n F) (hmax : n ≤ 1048576) (hall : ∀ i, i < n → (F i).n ≤ 1048576) :
    Calls Tryz.prog 17 #[.slice a n cap] w fun e w' => ∃ b G, e = .returned (.slice (some ⟨b, 0, none⟩) n n) ∧ OwnFs w' w.heap.size b n F G ∧ Below w.heap.size w w' := by
  have hmk := make_feats n hmax
  have HP : Hid (IsFs w a n F) := hp
  have HA : Hid (∀ i, i < n → (F i).n ≤ 1048576) := hall
  clear hp hall
  go_enter Tryz.func17, Tryz.ntmps17
  go_wp2
  generalize hW : (w.alloc _ : World) = W
  have HB0 : Hid (Below w.heap.size w W) := by show Below _ _ _; subst hW; (repeat (first | exact Below.refl _ _ | assumption | refine Below.drew ?_ | refine bl_alloc ?_ _ | refine bl_then ?_ (by assumption) | refine Below.setCell ?_ (by first | omega | (simp; done) | (simp; omega)) _ | refine bl_store ?_ ?_ _ _))
  have HT0 : Hid (There W w.heap.size (n * 7)) := by show There _ _ _; subst hW; exact there_madeF _ _ _
  have HL0 : Hid (w.heap.size < W.heap.size) := by show _ < _; subst hW; simp
  clear hW hmk
  go_loopw [4] (fun i wr => ∃ (k : Nat) (G : Nat → Feat), k ≤ n ∧ i = .int .i64 k ∧ Below w.heap.size w wr ∧ There wr w.heap.size (n * 7) ∧ OwnFs wr w.heap.size w.heap.size k F G) (fun i _ => n - (intOf i).toNat)
  case atStart => exact ⟨0, F, by omega, rfl, HB0.out, HT0.out, Nat.le_refl _, HL0.out, fun i hi => by omega, fun i hi => by omega⟩
  case round =>
    obtain ⟨k, G, hk, rfl, hB, hT, hO⟩ := hrel
    by_cases hlt : k < n
    · rcases HP.out with h0 | ⟨b, off, rfl, hbl, hpt⟩
      · omega
      · obtain ⟨⟨f0, f1, f2, f3, f4, f5, f6⟩, hIP⟩ := (hpt.below hB hbl) k hlt
        have HB : Hid (Below w.heap.size w wr) := hB
        have HT : Hid (There wr w.heap.size (n * 7)) := hT
        have HO : Hid (OwnFs wr w.heap.size w.heap.size k F G) := hO
        have HIP : Hid (IsPts wr (F k).a (F k).n (F k).X (F k).Y) := hIP
        have hnk := HA.out k hlt
        have hlw : w.heap.size < wr.heap.size := hO.2.1
        clear hB hT hO hpt hIP
        have hi : (k : Int) < (n : Int) := by omega
        have hi0 : (0 : Int) ≤ (k : Int) := by omega
        go_wp2_with fail
        refine (toFeature_any _ _ _ _ _ _ _ (F k).X (F k).Y _ _ _ HIP.out hnk).mono ?_
        rintro e w' ⟨q, rfl, hq1, hq2, hq3, hb⟩
        have hT' := HT.out.below hb
        have t0 := hT'.cell (k * 7) (by omega)
        have t1 := hT'.cell (k * 7 + 1) (by omega)
        have t2 := hT'.cell (k * 7 + 2) (by omega)
        have t3 := hT'.cell (k * 7 + 3) (by omega)
        have t4 := hT'.cell (k * 7 + 4) (by omega)
        have t5 := hT'.cell (k * 7 + 5) (by omega)
        have t6 := hT'.cell (k * 7 + 6) (by omega)
        have y0 := (hT' (k * 7) (by omega)).2
        have y1 := (hT' (k * 7 + 1) (by omega)).2
        have y2 := (hT' (k * 7 + 2) (by omega)).2
        have y3 := (hT' (k * 7 + 3) (by omega)).2
        have y4 := (hT' (k * 7 + 4) (by omega)).2
        have y5 := (hT' (k * 7 + 5) (by omega)).2
        have y6 := (hT' (k * 7 + 6) (by omega)).2
        have HT' : Hid (There w' w.heap.size (n * 7)) := hT'
        have HQ3 : Hid (PtsAt w' q 0 (F k).n (F k).X (F k).Y) := hq3
        have HBn : Hid (Below wr.heap.size wr w') := hb
        clear hT' hq3 hb f0 f1 f2 f3 f4 f5 f6
        go_wp2
        go_roundw
        case rel =>
          refine ⟨k + 1, fun i => if i = k then { F k with a := some ⟨q, 0, none⟩, cap := (F k).n } else G i, by omega, by go_num, ?_, ?_, ?_⟩
          · exact lay7_below (f := { F k with a := some ⟨q, 0, none⟩, cap := (F k).n }) (B := w.heap.size) (o := k * 7) (HB.out.trans (HBn.out.mono HB.out.size)) (Nat.le_refl _)
          · exact lay7_there (f := { F k with a := some ⟨q, 0, none⟩, cap := (F k).n }) (B := w.heap.size) (o := k * 7) HT'.out
          · exact own_lay (HO.out.below HBn.out) HT'.out (by omega) (by omega) hq2 HQ3.out (by omega)
        case measure => simp [intOf]; omega
    · go_wp2
      go_ret
      have hkn : k = n := by omega
      subst hkn
      exact ⟨_, G, rfl, hO, hB⟩
end Go.Proofs.YtdohlnnbibnnbaaGreat
