/- Several texts in one. -/
import Derived.Test.YtciidkmonfmipaaGreatVTakeTile6
import Derived.Deep.RegionHeld3
import Derived.Test.YtciidkmonfmipaaGreatVTakeTile2
import Derived.Deep.Slices

/- Lists of features: how they lie in memory; the copy of a list; its size. -/

namespace Go.Proofs.YtciidkmonfmipaaGreat
open Go.RowKit
set_option linter.unusedSimpArgs false
set_option linter.unusedVariables false
set_option maxRecDepth 100000

/-- A feature as it lies: its numbers, where its points are, its points, its label. -/
structure Feat where
  id : Int
  la : Int
  ki : Int
  wi : Int
  a : Option Addr
  n : Nat
  cap : Nat
  X : Nat → Int
  Y : Nat → Int
  lab : ByteArray
  pr : Int
/-- From the address on lie n features. -/
def FsAt (w : World) (b off n : Nat) (F : Nat → Feat) : Prop :=
  ∀ i, i < n → FeatAt w b (off + i * 7) (F i).id (F i).la (F i).ki (F i).wi (.slice (F i).a (F i).n (F i).cap) (F i).lab (F i).pr ∧ IsPts w (F i).a (F i).n (F i).X (F i).Y
theorem FsAt.below {w w' : World} {b off n : Nat} {F : Nat → Feat} (h : FsAt w b off n F) (hb : Below w.heap.size w w') (hl : b < w.heap.size) : FsAt w' b off n F := fun i hi =>
  ⟨(h i hi).1.below hb hl, (h i hi).2.below hb⟩
def IsFs (w : World) (a : Option Addr) (n : Nat) (F : Nat → Feat) : Prop := n = 0 ∨ ∃ b off, a = some ⟨b, off, none⟩ ∧ b < w.heap.size ∧ FsAt w b off n F
theorem IsFs.below {w w' : World} {a : Option Addr} {n : Nat} {F : Nat → Feat} (h : IsFs w a n F) (hb : Below w.heap.size w w') : IsFs w' a n F := by
  rcases h with h | ⟨b, off, e, hl, hp⟩
  · exact .inl h
  · exact .inr ⟨b, off, e, Nat.lt_of_lt_of_le hl hb.size, hp.below hb hl⟩
/-- The same feature, wherever its points lie. -/
def Feat.same (f g : Feat) : Prop := f.id = g.id ∧ f.la = g.la ∧ f.ki = g.ki ∧ f.wi = g.wi ∧ f.n = g.n ∧ f.X = g.X ∧ f.Y = g.Y ∧ f.lab = g.lab ∧ f.pr = g.pr
/-- A list of its own: block b, and each feature's points in a block of their own, from B on. -/
def OwnFs (w : World) (B b n : Nat) (F G : Nat → Feat) : Prop :=
  B ≤ b ∧ b < w.heap.size ∧ FsAt w b 0 n G ∧ ∀ i, i < n → (G i).same (F i) ∧ ∃ q, (G i).a = some ⟨q, 0, none⟩ ∧ (G i).cap = (G i).n ∧ q ≠ b ∧ B ≤ q ∧ q < w.heap.size ∧ PtsAt w q 0 (G i).n (G i).X (G i).Y
theorem OwnFs.below {w w' : World} {B b n : Nat} {F G : Nat → Feat} (h : OwnFs w B b n F G) (hb : Below w.heap.size w w') : OwnFs w' B b n F G := by
  obtain ⟨h1, h2, h3, h4⟩ := h
  refine ⟨h1, Nat.lt_of_lt_of_le h2 hb.size, h3.below hb h2, fun i hi => ?_⟩
  obtain ⟨e, q, e1, e2, e3, e4, e5, e6⟩ := h4 i hi
  exact ⟨e, q, e1, e2, e3, e4, Nat.lt_of_lt_of_le e5 hb.size, e6.below hb e5⟩

/-- Seven stores: a feature is laid. -/
def lay7 (W : World) (B o : Nat) (f : Feat) : World := (((((((W.setCell ⟨B, o, none⟩ (.int .i64 f.id)).setCell ⟨B, o + 1, none⟩ (.int .i64 f.la)).setCell ⟨B, o + 2, none⟩ (.int .i64 f.ki)).setCell ⟨B, o + 3, none⟩ (.int .i64 f.wi)).setCell ⟨B, o + 4, none⟩ (.slice f.a f.n f.cap)).setCell ⟨B, o + 5, none⟩ (.string f.lab)).setCell ⟨B, o + 6, none⟩ (.int .i64 f.pr))

theorem lay7_other {W : World} {B o : Nat} {f : Feat} {p : Addr} (h : p.block ≠ B ∨ p.off < o ∨ o + 6 < p.off) : (lay7 W B o f).cell? p = W.cell? p := by
  have ne : ∀ k : Nat, k ≤ 6 → (⟨B, o + k, none⟩ : Addr) ≠ p := fun k hk e => by subst e; simp at h; omega
  have ne0 : (⟨B, o, none⟩ : Addr) ≠ p := ne 0 (by omega)
  unfold lay7
  rw [set1_other (ne 6 (by omega)), set1_other (ne 5 (by omega)), set1_other (ne 4 (by omega)), set1_other (ne 3 (by omega)), set1_other (ne 2 (by omega)), set1_other (ne 1 (by omega)), set1_other ne0]
theorem lay7_there {W : World} {B o m : Nat} {f : Feat} (h : There W B m) : There (lay7 W B o f) B m := by
  unfold lay7
  exact ((((((h.set _ _).set _ _).set _ _).set _ _).set _ _).set _ _).set _ _
theorem lay7_at {W : World} {B o m : Nat} {f : Feat} (h : There W B m) (ho : o + 6 < m) : FeatAt (lay7 W B o f) B o f.id f.la f.ki f.wi (.slice f.a f.n f.cap) f.lab f.pr := by
  have ne : ∀ i j : Nat, i ≠ j → (⟨B, i, none⟩ : Addr) ≠ ⟨B, j, none⟩ := fun i j hij h => hij (by injection h)
  obtain ⟨u0, g0⟩ := (h (o) (by omega)).1
  obtain ⟨u1, g1⟩ := ((h.set (o) (.int .i64 f.id)) (o + 1) (by omega)).1
  obtain ⟨u2, g2⟩ := (((h.set (o) (.int .i64 f.id)).set (o + 1) (.int .i64 f.la)) (o + 2) (by omega)).1
  obtain ⟨u3, g3⟩ := ((((h.set (o) (.int .i64 f.id)).set (o + 1) (.int .i64 f.la)).set (o + 2) (.int .i64 f.ki)) (o + 3) (by omega)).1
  obtain ⟨u4, g4⟩ := (((((h.set (o) (.int .i64 f.id)).set (o + 1) (.int .i64 f.la)).set (o + 2) (.int .i64 f.ki)).set (o + 3) (.int .i64 f.wi)) (o + 4) (by omega)).1
  obtain ⟨u5, g5⟩ := ((((((h.set (o) (.int .i64 f.id)).set (o + 1) (.int .i64 f.la)).set (o + 2) (.int .i64 f.ki)).set (o + 3) (.int .i64 f.wi)).set (o + 4) (.slice f.a f.n f.cap)) (o + 5) (by omega)).1
  obtain ⟨u6, g6⟩ := (((((((h.set (o) (.int .i64 f.id)).set (o + 1) (.int .i64 f.la)).set (o + 2) (.int .i64 f.ki)).set (o + 3) (.int .i64 f.wi)).set (o + 4) (.slice f.a f.n f.cap)).set (o + 5) (.string f.lab)) (o + 6) (by omega)).1
  unfold lay7
  refine ⟨?_, ?_, ?_, ?_, ?_, ?_, ?_⟩
  · rw [set1_other (ne _ _ (by omega)), set1_other (ne _ _ (by omega)), set1_other (ne _ _ (by omega)), set1_other (ne _ _ (by omega)), set1_other (ne _ _ (by omega)), set1_other (ne _ _ (by omega))]; exact set1_same g0
  · rw [set1_other (ne _ _ (by omega)), set1_other (ne _ _ (by omega)), set1_other (ne _ _ (by omega)), set1_other (ne _ _ (by omega)), set1_other (ne _ _ (by omega))]; exact set1_same g1
  · rw [set1_other (ne _ _ (by omega)), set1_other (ne _ _ (by omega)), set1_other (ne _ _ (by omega)), set1_other (ne _ _ (by omega))]; exact set1_same g2
  · rw [set1_other (ne _ _ (by omega)), set1_other (ne _ _ (by omega)), set1_other (ne _ _ (by omega))]; exact set1_same g3
  · rw [set1_other (ne _ _ (by omega)), set1_other (ne _ _ (by omega))]; exact set1_same g4
  · rw [set1_other (ne _ _ (by omega))]; exact set1_same g5
  · exact set1_same g6
theorem lay7_size (W : World) (B o : Nat) (f : Feat) : (lay7 W B o f).heap.size = W.heap.size := by unfold lay7; simp
theorem lay7_below {V W : World} {n B o : Nat} {f : Feat} (h : Below n V W) (hB : n ≤ B) : Below n V (lay7 W B o f) := by
  unfold lay7
  exact ((((((h.setCell hB _).setCell hB _).setCell hB _).setCell hB _).setCell hB _).setCell hB _).setCell hB _
theorem PtsAt.lay {W : World} {b off n : Nat} {X Y : Nat → Int} (h : PtsAt W b off n X Y) {B o : Nat} {f : Feat} (hne : B ≠ b) : PtsAt (lay7 W B o f) b off n X Y := by
  unfold lay7
  exact ((((((h.store hne).store hne).store hne).store hne).store hne).store hne).store hne

theorem info_if : (Tryz.prog.info? 101).map (fun i => (i.zero, i.size, i.bytes)) = some (some (.agg #[.int .i64 0, .int .i64 0, .int .i64 0, .int .i64 0, .slice none 0 0, .string ⟨#[]⟩, .int .i64 0]), 7, 80) := by kernel_rfl
abbrev zeroF : Array Value := #[.int .i64 0, .int .i64 0, .int .i64 0, .int .i64 0, .slice none 0 0, .string ⟨#[]⟩, .int .i64 0]
theorem make_feats (n : Nat) (h : n ≤ 1048576) (w : World) :
    (Instr.makeSlice 40 (.int .i64 (n : Int)) (.int .i64 (n : Int))).run Tryz.prog w = .ok (.slice (some ⟨w.heap.size, 0, none⟩) n n) (w.alloc (.cells (madeCells zeroF (n * 7)) 101)) := by
  obtain ⟨i, hi, hz, hs, hb⟩ := info_parts info_if
  have hr := run_make (P := Tryz.prog) w 40 101 i _ Tryz.underlying40 hi hz .i64 .i64 (n : Int) (n : Int) (by omega) (Int.le_refl _) (by rw [hb]; omega) (by omega)
  simp only [Int.toNat_natCast, hs] at hr
  exact hr
theorem there_madeF (n : Nat) (w : World) (t : TypeId) : There (w.alloc (.cells (madeCells zeroF n) t)) w.heap.size n := fun o ho => by
  have hz := size_madeCells zeroF n
  refine ⟨⟨(madeCells zeroF n)[o]'(by rw [hz]; exact ho), ?_⟩, World.frozen?_alloc_at _ _ _ _ rfl⟩
  rw [World.cell?_alloc_at _ _ _ _ rfl]
  exact Array.getElem?_eq_getElem _

theorem own_lay {W : World} {B n k q : Nat} {F G : Nat → Feat} (h : OwnFs W B B k F G) (hT : There W B (n * 7)) (hk : k < n) (hqB : B ≤ q) (hq : q < W.heap.size) (hp : PtsAt W q 0 (F k).n (F k).X (F k).Y) (hne : q ≠ B) :
    OwnFs (lay7 W B (k * 7) { F k with a := some ⟨q, 0, none⟩, cap := (F k).n }) B B (k + 1) F (fun i => if i = k then { F k with a := some ⟨q, 0, none⟩, cap := (F k).n } else G i) := by
  obtain ⟨h1, h2, h3, h4⟩ := h
  refine ⟨h1, by rw [lay7_size]; exact h2, fun i hi => ?_, fun i hi => ?_⟩
  · by_cases e : i = k
    · subst e
      simp only [if_pos, Nat.zero_add]
      refine ⟨lay7_at hT (by omega), .inr ⟨q, 0, rfl, by rw [lay7_size]; exact hq, hp.lay (fun h => hne h.symm)⟩⟩
    · simp only [if_neg e]
      obtain ⟨c, ip⟩ := h3 i (by omega)
      obtain ⟨_, q', e1, e2, e3, e4, e5, e6⟩ := h4 i (by omega)
      refine ⟨?_, ?_⟩
      · obtain ⟨c0, c1, c2, c3, c4, c5, c6⟩ := c
        refine ⟨?_, ?_, ?_, ?_, ?_, ?_, ?_⟩ <;> (rw [lay7_other (by right; left; simp; omega)]; assumption)
      · exact .inr ⟨q', 0, e1, by rw [lay7_size]; exact e5, e6.lay (fun h => e3 h.symm)⟩
  · by_cases e : i = k
    · subst e
      simp only [if_pos]
      exact ⟨⟨rfl, rfl, rfl, rfl, rfl, rfl, rfl, rfl, rfl⟩, q, by first | rfl | trivial, by first | trivial | rfl, hne, hqB, by rw [lay7_size]; exact hq, hp.lay (fun h => hne h.symm)⟩
    · simp only [if_neg e]
      obtain ⟨sm, q', e1, e2, e3, e4, e5, e6⟩ := h4 i (by omega)
      exact ⟨sm, q', e1, e2, e3, e4, by rw [lay7_size]; exact e5, e6.lay (fun h => e3 h.symm)⟩

end Go.Proofs.YtciidkmonfmipaaGreat
/- Lists of features: their size, whether two are the same, their fault. -/

namespace Go.Proofs.YtciidkmonfmipaaGreat
open Go.RowKit
set_option linter.unusedSimpArgs false
set_option linter.unusedVariables false
set_option maxRecDepth 100000

/-- No feature of the list is greater than what may be asked. -/
def SmallFs (n : Nat) (F : Nat → Feat) : Prop := n ≤ 1048576 ∧ ∀ i, i < n → (F i).n ≤ 1048576 ∧ (F i).lab.size ≤ 1048576
/-- What came in: each slice and each text within its bounds. -/
def CameFs (n : Nat) (F : Nat → Feat) : Prop := n ≤ maxLen ∧ ∀ i, i < n → (F i).n ≤ maxLen ∧ (F i).lab.size ≤ maxLen

theorem szF_cases (left n s : Nat) (hl : left ≤ 1048576) : szF left n s = -1 ∨ ∃ m : Nat, szF left n s = (m : Int) ∧ m ≤ left ∧ n ≤ 1048576 ∧ s ≤ 1048576 := by
  unfold szF
  by_cases h : left < n + s
  · left; rw [if_pos h]
  · right; rw [if_neg h]; exact ⟨left - n - s, by omega, by omega, by omega, by omega⟩

set_option maxHeartbeats 4000000 in
theorem szFeatureS_any (a : Option Addr) (n cap : Nat) (F : Nat → Feat) (left : Nat) (w : World) (hl : left ≤ 1048576) (hf : IsFs w a n F) (hc : CameFs n F) :
    Calls Tryz.prog 25 #[.slice a n cap, .int .i64 left] w fun e w' => (e = .returned (.int .i64 (-1)) ∨ ∃ m : Nat, m ≤ left ∧ SmallFs n F ∧ e = .returned (.int .i64 m)) ∧ Below w.heap.size w w' := by
  obtain ⟨hc1, hc2⟩ := hc
  unfold maxLen at hc1
  have HC : Hid (∀ i, i < n → (F i).n ≤ maxLen ∧ (F i).lab.size ≤ maxLen) := hc2
  have HF : Hid (IsFs w a n F) := hf
  clear hc2 hf
  by_cases h0 : left < n
  · have hneg : (left : Int) - (n : Int) < 0 := by omega
    go_enter Tryz.func25, Tryz.ntmps25
    go_wp2
    go_ret
    exact ⟨.inl rfl, by (repeat (first | exact Below.refl _ _ | assumption | refine Below.drew ?_ | refine bl_alloc ?_ _ | refine bl_then ?_ (by assumption) | refine Below.setCell ?_ (by first | omega | (simp; done) | (simp; omega)) _ | refine bl_store ?_ ?_ _ _))⟩
  · have hneg : ¬ (left : Int) - (n : Int) < 0 := by omega
    have hn : n ≤ 1048576 := by omega
    clear hc1
    go_enter Tryz.func25, Tryz.ntmps25
    go_wp2
    go_loopw [1, 5] (fun v i wr => ∃ k m : Nat, k ≤ n ∧ v = .int .i64 m ∧ i = .int .i64 k ∧ m ≤ left ∧ (∀ j, j < k → (F j).n ≤ 1048576 ∧ (F j).lab.size ≤ 1048576) ∧ Below w.heap.size w wr) (fun _ i _ => n - (intOf i).toNat)
    case atStart => exact ⟨0, left - n, by omega, by congr 1; omega, rfl, by omega, by omega, Below.refl _ _⟩
    case round =>
      obtain ⟨k, m, hk, rfl, rfl, hm, hA, hB⟩ := hrel
      by_cases hlt : k < n
      · rcases HF.out with hz | ⟨b, off, rfl, hbl, hpt⟩
        · omega
        · obtain ⟨⟨f0, f1, f2, f3, f4, f5, f6⟩, _⟩ := (hpt.below hB hbl) k hlt
          obtain ⟨g1, g2⟩ := HC.out k hlt
          have HG : Hid ((F k).n ≤ maxLen ∧ (F k).lab.size ≤ maxLen) := ⟨g1, g2⟩
          have HB : Hid (Below w.heap.size w wr) := hB
          have HA : Hid (∀ j, j < k → (F j).n ≤ 1048576 ∧ (F j).lab.size ≤ 1048576) := hA
          clear hB hA hpt g1 g2
          have hi : (k : Int) < (n : Int) := by omega
          have hi0 : (0 : Int) ≤ (k : Int) := by omega
          have hm1 : m ≤ 1048576 := by omega
          go_wp2_with fail
          refine (szFeature_any _ _ _ _ _ _ _ _ _ m _ hm1 HG.out.1 HG.out.2).mono ?_
          rintro e w' ⟨rfl, hb⟩
          have HBn : Hid (Below w.heap.size w w') := bl_then HB.out hb
          clear hb f0 f1 f2 f3 f4 f5 f6
          rcases szF_cases m (F k).n (F k).lab.size hm1 with h | ⟨m', h, h1, h2, h3⟩
          · rw [h]
            go_wp2
            go_ret
            exact ⟨.inl rfl, HBn.out⟩
          · rw [h]
            have hneg' : ¬ ((m' : Nat) : Int) < 0 := by omega
            go_wp2
            go_roundw
            case rel => exact ⟨k + 1, m', by omega, rfl, by go_num, by omega, fun j hj => by
                by_cases e : j = k
                · rw [e]; exact ⟨h2, h3⟩
                · exact HA.out j (by omega), HBn.out⟩
            case measure => simp [intOf]; omega
      · go_wp2
        go_ret
        exact ⟨.inr ⟨m, hm, ⟨hn, fun i hi => hA i (by omega)⟩, rfl⟩, hB⟩

set_option maxHeartbeats 4000000 in
theorem eqFeatureS_any (b d n B C : Nat) (F G H : Nat → Feat) (w : World) (hg : OwnFs w B b n F G) (hh : OwnFs w C d n F H) (hs : SmallFs n F) :
    Calls Tryz.prog 37 #[.slice (some ⟨b, 0, none⟩) n n, .slice (some ⟨d, 0, none⟩) n n] w fun e w' => e = .returned (.bool true) ∧ Below w.heap.size w w' := by
  have HG : Hid (OwnFs w B b n F G) := hg
  have HH : Hid (OwnFs w C d n F H) := hh
  have hbl : b < w.heap.size := hg.2.1
  have hdl : d < w.heap.size := hh.2.1
  have HS : Hid (SmallFs n F) := hs
  clear hg hh hs
  go_enter Tryz.func37, Tryz.ntmps37
  go_wp2
  go_loopw [5] (fun i wr => ∃ k : Nat, k ≤ n ∧ i = .int .i64 k ∧ Below w.heap.size w wr) (fun i _ => n - (intOf i).toNat)
  case atStart => exact ⟨0, by omega, rfl, Below.refl _ _⟩
  case round =>
    obtain ⟨k, hk, rfl, hB⟩ := hrel
    by_cases hlt : k < n
    · have hFG := HG.out.2.2.1
      have hFH := HH.out.2.2.1
      have c0 : ∀ W', Below wr.heap.size wr W' → W'.cell? ⟨b, k * 7, none⟩ = some (.int .i64 (G k).id) := fun W' h => by simpa using ((hFG.below hB hbl).below h (Nat.lt_of_lt_of_le hbl hB.size) k hlt).1.1
      have c1 : ∀ W', Below wr.heap.size wr W' → W'.cell? ⟨b, k * 7 + 1, none⟩ = some (.int .i64 (G k).la) := fun W' h => by simpa using ((hFG.below hB hbl).below h (Nat.lt_of_lt_of_le hbl hB.size) k hlt).1.2.1
      have c2 : ∀ W', Below wr.heap.size wr W' → W'.cell? ⟨b, k * 7 + 2, none⟩ = some (.int .i64 (G k).ki) := fun W' h => by simpa using ((hFG.below hB hbl).below h (Nat.lt_of_lt_of_le hbl hB.size) k hlt).1.2.2.1
      have c3 : ∀ W', Below wr.heap.size wr W' → W'.cell? ⟨b, k * 7 + 3, none⟩ = some (.int .i64 (G k).wi) := fun W' h => by simpa using ((hFG.below hB hbl).below h (Nat.lt_of_lt_of_le hbl hB.size) k hlt).1.2.2.2.1
      have c4 : ∀ W', Below wr.heap.size wr W' → W'.cell? ⟨b, k * 7 + 4, none⟩ = some (.slice (G k).a (G k).n (G k).cap) := fun W' h => by simpa using ((hFG.below hB hbl).below h (Nat.lt_of_lt_of_le hbl hB.size) k hlt).1.2.2.2.2.1
      have c5 : ∀ W', Below wr.heap.size wr W' → W'.cell? ⟨b, k * 7 + 5, none⟩ = some (.string (G k).lab) := fun W' h => by simpa using ((hFG.below hB hbl).below h (Nat.lt_of_lt_of_le hbl hB.size) k hlt).1.2.2.2.2.2.1
      have c6 : ∀ W', Below wr.heap.size wr W' → W'.cell? ⟨b, k * 7 + 6, none⟩ = some (.int .i64 (G k).pr) := fun W' h => by simpa using ((hFG.below hB hbl).below h (Nat.lt_of_lt_of_le hbl hB.size) k hlt).1.2.2.2.2.2.2
      have d0 : ∀ W', Below wr.heap.size wr W' → W'.cell? ⟨d, k * 7, none⟩ = some (.int .i64 (H k).id) := fun W' h => by simpa using ((hFH.below hB hdl).below h (Nat.lt_of_lt_of_le hdl hB.size) k hlt).1.1
      have d1 : ∀ W', Below wr.heap.size wr W' → W'.cell? ⟨d, k * 7 + 1, none⟩ = some (.int .i64 (H k).la) := fun W' h => by simpa using ((hFH.below hB hdl).below h (Nat.lt_of_lt_of_le hdl hB.size) k hlt).1.2.1
      have d2 : ∀ W', Below wr.heap.size wr W' → W'.cell? ⟨d, k * 7 + 2, none⟩ = some (.int .i64 (H k).ki) := fun W' h => by simpa using ((hFH.below hB hdl).below h (Nat.lt_of_lt_of_le hdl hB.size) k hlt).1.2.2.1
      have d3 : ∀ W', Below wr.heap.size wr W' → W'.cell? ⟨d, k * 7 + 3, none⟩ = some (.int .i64 (H k).wi) := fun W' h => by simpa using ((hFH.below hB hdl).below h (Nat.lt_of_lt_of_le hdl hB.size) k hlt).1.2.2.2.1
      have d4 : ∀ W', Below wr.heap.size wr W' → W'.cell? ⟨d, k * 7 + 4, none⟩ = some (.slice (H k).a (H k).n (H k).cap) := fun W' h => by simpa using ((hFH.below hB hdl).below h (Nat.lt_of_lt_of_le hdl hB.size) k hlt).1.2.2.2.2.1
      have d5 : ∀ W', Below wr.heap.size wr W' → W'.cell? ⟨d, k * 7 + 5, none⟩ = some (.string (H k).lab) := fun W' h => by simpa using ((hFH.below hB hdl).below h (Nat.lt_of_lt_of_le hdl hB.size) k hlt).1.2.2.2.2.2.1
      have d6 : ∀ W', Below wr.heap.size wr W' → W'.cell? ⟨d, k * 7 + 6, none⟩ = some (.int .i64 (H k).pr) := fun W' h => by simpa using ((hFH.below hB hdl).below h (Nat.lt_of_lt_of_le hdl hB.size) k hlt).1.2.2.2.2.2.2
      obtain ⟨sg, q, e1, e2, _, _, e5, e6⟩ := HG.out.2.2.2 k hlt
      obtain ⟨sh, r, g1, g2, _, _, g5, g6⟩ := HH.out.2.2.2 k hlt
      obtain ⟨s1, s2, s3, s4, s5, s6, s7, s8, s9⟩ := sg
      obtain ⟨t1, t2, t3, t4, t5, t6, t7, t8, t9⟩ := sh
      rw [s1] at c0; rw [s2] at c1; rw [s3] at c2; rw [s4] at c3; rw [e1, e2, s5] at c4; rw [s8] at c5; rw [s9] at c6
      rw [t1] at d0; rw [t2] at d1; rw [t3] at d2; rw [t4] at d3; rw [g1, g2, t5] at d4; rw [t8] at d5; rw [t9] at d6
      rw [s5, s6, s7] at e6
      rw [t5, t6, t7] at g6
      have KE : Hid (PtsAt wr q 0 (F k).n (F k).X (F k).Y) := e6.below hB e5
      have KG : Hid (PtsAt wr r 0 (F k).n (F k).X (F k).Y) := g6.below hB g5
      have hql : q < wr.heap.size := Nat.lt_of_lt_of_le e5 hB.size
      have hrl : r < wr.heap.size := Nat.lt_of_lt_of_le g5 hB.size
      have HLT : Hid (k < n) := hlt
      have hnn := HS.out.1
      have hnk := (HS.out.2 k hlt).1
      have HB : Hid (Below w.heap.size w wr) := hB
      clear hB hFG hFH s1 s2 s3 s4 s5 s6 s7 s8 s9 t1 t2 t3 t4 t5 t6 t7 t8 t9 e1 e2 e5 e6 g1 g2 g5 g6
      have hi : (k : Int) < (n : Int) := by omega
      have hi0 : (0 : Int) ≤ (k : Int) := by omega
      go_wp2
      go_region_held3 (fun W' => Below wr.heap.size wr W') ((repeat (first | exact Below.refl _ _ | assumption | refine Below.drew ?_ | refine bl_alloc ?_ _ | refine bl_then ?_ (by assumption) | refine Below.setCell ?_ (by first | omega | (simp; done) | (simp; omega)) _ | refine bl_store ?_ ?_ _ _)))
        (first
          | (go_at_call 72; refine (eqFeature_any _ _ _ _ (F k).n (F k).X (F k).Y _ _ q r _ (KE.out.below (by assumption) hql) (KG.out.below (by assumption) hrl) (Nat.lt_of_lt_of_le hql (Below.size (by assumption))) (Nat.lt_of_lt_of_le hrl (Below.size (by assumption))) hnk).mono ?_; rintro e w' ⟨rfl, hb⟩))
      go_wp2
      go_roundw
      case rel => exact ⟨k + 1, by have := HLT.out; omega, by go_num, bl_then HB.out (by assumption)⟩
      case measure => have := HLT.out; simp [intOf]; omega
    · go_wp2
      go_ret
      exact ⟨rfl, hB⟩

set_option maxHeartbeats 4000000 in
theorem l2At_any (b n cap : Nat) (G : Nat → Feat) (i : Nat) (w : World) (hi : i < n) (hg : FsAt w b 0 n G) (hbl : b < w.heap.size) (hn : n ≤ 1048576) :
    Calls Tryz.prog 83 #[.slice (some ⟨b, 0, none⟩) n cap, .int .i64 (G i).id] w fun e w' => (∃ r : Nat, r ≤ i ∧ (G r).id = (G i).id ∧ (∀ j, j < r → (G j).id ≠ (G i).id) ∧ e = .returned (.int .i64 r)) ∧ Below w.heap.size w w' := by
  have HG : Hid (FsAt w b 0 n G) := hg
  clear hg
  have HI : Hid (i < n) := hi
  clear hi
  generalize hid : (G i).id = t
  have HT : Hid ((G i).id = t) := hid
  clear hid
  go_enter Tryz.func83, Tryz.ntmps83
  go_wp2
  go_loopw [5] (fun v wr => ∃ k : Nat, k ≤ i ∧ v = .int .i64 k ∧ (∀ j, j < k → (G j).id ≠ t) ∧ Below w.heap.size w wr) (fun v _ => n - (intOf v).toNat)
  case atStart => exact ⟨0, by omega, rfl, by omega, Below.refl _ _⟩
  case round =>
    obtain ⟨k, hk, rfl, hA, hB⟩ := hrel
    have hlt : k < n := Nat.lt_of_le_of_lt hk HI.out
    have f0 : wr.cell? ⟨b, k * 7, none⟩ = some (.int .i64 (G k).id) := by simpa using ((HG.out.below hB hbl) k hlt).1.1
    have HB : Hid (Below w.heap.size w wr) := hB
    have HA : Hid (∀ j, j < k → (G j).id ≠ t) := hA
    clear hB hA
    have hi : (k : Int) < (n : Int) := by omega
    have hi0 : (0 : Int) ≤ (k : Int) := by omega
    by_cases he : (G k).id = t
    · rw [he] at f0
      go_wp2
      go_ret
      exact ⟨⟨k, hk, he, HA.out, rfl⟩, HB.out⟩
    · have he' : ((G k).id == t) = false := by simpa using he
      have HE : Hid ((G k).id ≠ t) := he
      have hki : k ≠ i := fun e => he (by rw [e]; exact HT.out)
      clear he
      go_wp2
      go_roundw
      case rel => exact ⟨k + 1, by omega, by go_num, fun j hj => by
          by_cases e : j = k
          · rw [e]; exact HE.out
          · exact HA.out j (by omega), HB.out⟩
      case measure => simp [intOf]; omega
set_option maxHeartbeats 4000000 in
theorem hasId_any (b n cap N : Nat) (G : Nat → Feat) (t : Int) (w : World) (hnN : n ≤ N) (hg : FsAt w b 0 N G) (hbl : b < w.heap.size) (hn : n ≤ 1048576) :
    Calls Tryz.prog 92 #[.slice (some ⟨b, 0, none⟩) n cap, .int .i64 t] w fun e w' => ((e = .returned (.bool true) ∧ ∃ j, j < n ∧ (G j).id = t) ∨ (e = .returned (.bool false) ∧ ∀ j, j < n → (G j).id ≠ t)) ∧ Below w.heap.size w w' := by
  have HG : Hid (FsAt w b 0 N G) := hg
  clear hg
  go_enter Tryz.func92, Tryz.ntmps92
  go_wp2
  go_loopw [9] (fun v wr => ∃ k : Nat, k ≤ n ∧ v = .int .i64 k ∧ (∀ j, j < k → (G j).id ≠ t) ∧ Below w.heap.size w wr) (fun v _ => n - (intOf v).toNat)
  case atStart => exact ⟨0, by omega, rfl, by omega, Below.refl _ _⟩
  case round =>
    obtain ⟨k, hk, rfl, hA, hB⟩ := hrel
    have HB : Hid (Below w.heap.size w wr) := hB
    have HA : Hid (∀ j, j < k → (G j).id ≠ t) := hA
    by_cases hlt : k < n
    · obtain ⟨⟨f0, f1, f2, f3, f4, f5, f6⟩, _⟩ := (HG.out.below hB hbl) k (by omega)
      simp only [Nat.zero_add] at f0 f1 f2 f3 f4 f5 f6
      clear hB hA
      have hi : (k : Int) < (n : Int) := by omega
      have hi0 : (0 : Int) ≤ (k : Int) := by omega
      by_cases he : (G k).id = t
      · have he' : ((G k).id == t) = true := by simpa using he
        have HE : Hid ((G k).id = t) := he
        clear he
        go_wp2
        go_ret
        exact ⟨.inl ⟨rfl, k, hlt, HE.out⟩, by have HB' := HB.out; (repeat (first | exact Below.refl _ _ | assumption | refine Below.drew ?_ | refine bl_alloc ?_ _ | refine bl_then ?_ (by assumption) | refine Below.setCell ?_ (by first | omega | (simp; done) | (simp; omega)) _ | refine bl_store ?_ ?_ _ _))⟩
      · have he' : ((G k).id == t) = false := by simpa using he
        have HE : Hid ((G k).id ≠ t) := he
        clear he
        go_wp2
        go_roundw
        case rel => exact ⟨k + 1, by omega, by go_num, fun j hj => by
            by_cases e : j = k
            · rw [e]; exact HE.out
            · exact HA.out j (by omega), by have HB' := HB.out; (repeat (first | exact Below.refl _ _ | assumption | refine Below.drew ?_ | refine bl_alloc ?_ _ | refine bl_then ?_ (by assumption) | refine Below.setCell ?_ (by first | omega | (simp; done) | (simp; omega)) _ | refine bl_store ?_ ?_ _ _))⟩
        case measure => simp [intOf]; omega
    · go_wp2
      go_ret
      exact ⟨.inr ⟨rfl, fun j hj => hA j (by omega)⟩, hB⟩
end Go.Proofs.YtciidkmonfmipaaGreat
/- How a list of features that came in is read. -/

namespace Go.Proofs.YtciidkmonfmipaaGreat
open Go.ChangeShapes Go.WideShapes Go.ChangeAt Go.RowKit Go.Deep
set_option linter.unusedVariables false
set_option maxRecDepth 100000

end Go.Proofs.YtciidkmonfmipaaGreat
