/- Several texts in one. -/
import Derived.Test.YtchofahdcohibaaGreatVPaints9
import Derived.Test.YtchofahdcohibaaGreatVPaints2
import Derived.Deep.RegionHeld3
import Derived.WalkKit
import Derived.Test.YtchofahdcohibaaGreatVPaints4

/- Lists of features: how they lie in memory; the copy of a list; its size. -/

namespace Go.Proofs.YtchofahdcohibaaGreat
open Go.RowKit
set_option linter.unusedSimpArgs false
set_option linter.unusedVariables false
set_option maxRecDepth 100000

/-- A feature as it lies: its numbers, where its points are, its points, its label. -/
structure Feat where
  id : Int
  la : Int
  ki : Int
  wi : Int
  a : Option Addr
  n : Nat
  cap : Nat
  X : Nat → Int
  Y : Nat → Int
  lab : ByteArray
  pr : Int
/-- From the address on lie n features. -/
def FsAt (w : World) (b off n : Nat) (F : Nat → Feat) : Prop :=
  ∀ i, i < n → FeatAt w b (off + i * 7) (F i).id (F i).la (F i).ki (F i).wi (.slice (F i).a (F i).n (F i).cap) (F i).lab (F i).pr ∧ IsPts w (F i).a (F i).n (F i).X (F i).Y
theorem FsAt.below {w w' : World} {b off n : Nat} {F : Nat → Feat} (h : FsAt w b off n F) (hb : Below w.heap.size w w') (hl : b < w.heap.size) : FsAt w' b off n F := fun i hi =>
  ⟨(h i hi).1.below hb hl, (h i hi).2.below hb⟩
def IsFs (w : World) (a : Option Addr) (n : Nat) (F : Nat → Feat) : Prop := n = 0 ∨ ∃ b off, a = some ⟨b, off, none⟩ ∧ b < w.heap.size ∧ FsAt w b off n F
theorem IsFs.below {w w' : World} {a : Option Addr} {n : Nat} {F : Nat → Feat} (h : IsFs w a n F) (hb : Below w.heap.size w w') : IsFs w' a n F := by
  rcases h with h | ⟨b, off, e, hl, hp⟩
  · exact .inl h
  · exact .inr ⟨b, off, e, Nat.lt_of_lt_of_le hl hb.size, hp.below hb hl⟩
/-- The same feature, wherever its points lie. -/
def Feat.same (f g : Feat) : Prop := f.id = g.id ∧ f.la = g.la ∧ f.ki = g.ki ∧ f.wi = g.wi ∧ f.n = g.n ∧ f.X = g.X ∧ f.Y = g.Y ∧ f.lab = g.lab ∧ f.pr = g.pr
/-- A list of its own: block b, and each feature's points in a block of their own, from B on. -/
def OwnFs (w : World) (B b n : Nat) (F G : Nat → Feat) : Prop :=
  B ≤ b ∧ b < w.heap.size ∧ FsAt w b 0 n G ∧ ∀ i, i < n → (G i).same (F i) ∧ ∃ q, (G i).a = some ⟨q, 0, none⟩ ∧ (G i).cap = (G i).n ∧ q ≠ b ∧ B ≤ q ∧ q < w.heap.size ∧ PtsAt w q 0 (G i).n (G i).X (G i).Y
theorem OwnFs.below {w w' : World} {B b n : Nat} {F G : Nat → Feat} (h : OwnFs w B b n F G) (hb : Below w.heap.size w w') : OwnFs w' B b n F G := by
  obtain ⟨h1, h2, h3, h4⟩ := h
  refine ⟨h1, Nat.lt_of_lt_of_le h2 hb.size, h3.below hb h2, fun i hi => ?_⟩
  obtain ⟨e, q, e1, e2, e3, e4, e5, e6⟩ := h4 i hi
  exact ⟨e, q, e1, e2, e3, e4, Nat.lt_of_lt_of_le e5 hb.size, e6.below hb e5⟩

/-- Seven stores: a feature is laid. -/
def lay7 (W : World) (B o : Nat) (f : Feat) : World := (((((((W.setCell ⟨B, o, none⟩ (.int .i64 f.id)).setCell ⟨B, o + 1, none⟩ (.int .i64 f.la)).setCell ⟨B, o + 2, none⟩ (.int .i64 f.ki)).setCell ⟨B, o + 3, none⟩ (.int .i64 f.wi)).setCell ⟨B, o + 4, none⟩ (.slice f.a f.n f.cap)).setCell ⟨B, o + 5, none⟩ (.string f.lab)).setCell ⟨B, o + 6, none⟩ (.int .i64 f.pr))

theorem lay7_other {W : World} {B o : Nat} {f : Feat} {p : Addr} (h : p.block ≠ B ∨ p.off < o ∨ o + 6 < p.off) : (lay7 W B o f).cell? p = W.cell? p := by
  have ne : ∀ k : Nat, k ≤ 6 → (⟨B, o + k, none⟩ : Addr) ≠ p := fun k hk e => by subst e; simp at h; omega
  have ne0 : (⟨B, o, none⟩ : Addr) ≠ p := ne 0 (by omega)
  unfold lay7
  rw [set1_other (ne 6 (by omega)), set1_other (ne 5 (by omega)), set1_other (ne 4 (by omega)), set1_other (ne 3 (by omega)), set1_other (ne 2 (by omega)), set1_other (ne 1 (by omega)), set1_other ne0]
theorem lay7_there {W : World} {B o m : Nat} {f : Feat} (h : There W B m) : There (lay7 W B o f) B m := by
  unfold lay7
  exact ((((((h.set _ _).set _ _).set _ _).set _ _).set _ _).set _ _).set _ _
theorem lay7_at {W : World} {B o m : Nat} {f : Feat} (h : There W B m) (ho : o + 6 < m) : FeatAt (lay7 W B o f) B o f.id f.la f.ki f.wi (.slice f.a f.n f.cap) f.lab f.pr := by
  have ne : ∀ i j : Nat, i ≠ j → (⟨B, i, none⟩ : Addr) ≠ ⟨B, j, none⟩ := fun i j hij h => hij (by injection h)
  obtain ⟨u0, g0⟩ := (h (o) (by omega)).1
  obtain ⟨u1, g1⟩ := ((h.set (o) (.int .i64 f.id)) (o + 1) (by omega)).1
  obtain ⟨u2, g2⟩ := (((h.set (o) (.int .i64 f.id)).set (o + 1) (.int .i64 f.la)) (o + 2) (by omega)).1
  obtain ⟨u3, g3⟩ := ((((h.set (o) (.int .i64 f.id)).set (o + 1) (.int .i64 f.la)).set (o + 2) (.int .i64 f.ki)) (o + 3) (by omega)).1
  obtain ⟨u4, g4⟩ := (((((h.set (o) (.int .i64 f.id)).set (o + 1) (.int .i64 f.la)).set (o + 2) (.int .i64 f.ki)).set (o + 3) (.int .i64 f.wi)) (o + 4) (by omega)).1
  obtain ⟨u5, g5⟩ := ((((((h.set (o) (.int .i64 f.id)).set (o + 1) (.int .i64 f.la)).set (o + 2) (.int .i64 f.ki)).set (o + 3) (.int .i64 f.wi)).set (o + 4) (.slice f.a f.n f.cap)) (o + 5) (by omega)).1
  obtain ⟨u6, g6⟩ := (((((((h.set (o) (.int .i64 f.id)).set (o + 1) (.int .i64 f.la)).set (o + 2) (.int .i64 f.ki)).set (o + 3) (.int .i64 f.wi)).set (o + 4) (.slice f.a f.n f.cap)).set (o + 5) (.string f.lab)) (o + 6) (by omega)).1
  unfold lay7
  refine ⟨?_, ?_, ?_, ?_, ?_, ?_, ?_⟩
  · rw [set1_other (ne _ _ (by omega)), set1_other (ne _ _ (by omega)), set1_other (ne _ _ (by omega)), set1_other (ne _ _ (by omega)), set1_other (ne _ _ (by omega)), set1_other (ne _ _ (by omega))]; exact set1_same g0
  · rw [set1_other (ne _ _ (by omega)), set1_other (ne _ _ (by omega)), set1_other (ne _ _ (by omega)), set1_other (ne _ _ (by omega)), set1_other (ne _ _ (by omega))]; exact set1_same g1
  · rw [set1_other (ne _ _ (by omega)), set1_other (ne _ _ (by omega)), set1_other (ne _ _ (by omega)), set1_other (ne _ _ (by omega))]; exact set1_same g2
  · rw [set1_other (ne _ _ (by omega)), set1_other (ne _ _ (by omega)), set1_other (ne _ _ (by omega))]; exact set1_same g3
  · rw [set1_other (ne _ _ (by omega)), set1_other (ne _ _ (by omega))]; exact set1_same g4
  · rw [set1_other (ne _ _ (by omega))]; exact set1_same g5
  · exact set1_same g6
theorem lay7_size (W : World) (B o : Nat) (f : Feat) : (lay7 W B o f).heap.size = W.heap.size := by unfold lay7; simp
theorem lay7_below {V W : World} {n B o : Nat} {f : Feat} (h : Below n V W) (hB : n ≤ B) : Below n V (lay7 W B o f) := by
  unfold lay7
  exact ((((((h.setCell hB _).setCell hB _).setCell hB _).setCell hB _).setCell hB _).setCell hB _).setCell hB _
theorem PtsAt.lay {W : World} {b off n : Nat} {X Y : Nat → Int} (h : PtsAt W b off n X Y) {B o : Nat} {f : Feat} (hne : B ≠ b) : PtsAt (lay7 W B o f) b off n X Y := by
  unfold lay7
  exact ((((((h.store hne).store hne).store hne).store hne).store hne).store hne).store hne

theorem info_if : (Tryz.prog.info? 36).map (fun i => (i.zero, i.size, i.bytes)) = some (some (.agg #[.int .i64 0, .int .i64 0, .int .i64 0, .int .i64 0, .slice none 0 0, .string ⟨#[]⟩, .int .i64 0]), 7, 80) := by kernel_rfl
abbrev zeroF : Array Value := #[.int .i64 0, .int .i64 0, .int .i64 0, .int .i64 0, .slice none 0 0, .string ⟨#[]⟩, .int .i64 0]
theorem make_feats (n : Nat) (h : n ≤ 1048576) (w : World) :
    (Instr.makeSlice 24 (.int .i64 (n : Int)) (.int .i64 (n : Int))).run Tryz.prog w = .ok (.slice (some ⟨w.heap.size, 0, none⟩) n n) (w.alloc (.cells (madeCells zeroF (n * 7)) 36)) := by
  obtain ⟨i, hi, hz, hs, hb⟩ := info_parts info_if
  have hr := run_make (P := Tryz.prog) w 24 36 i _ Tryz.underlying24 hi hz .i64 .i64 (n : Int) (n : Int) (by omega) (Int.le_refl _) (by rw [hb]; omega) (by omega)
  simp only [Int.toNat_natCast, hs] at hr
  exact hr
theorem there_madeF (n : Nat) (w : World) (t : TypeId) : There (w.alloc (.cells (madeCells zeroF n) t)) w.heap.size n := fun o ho => by
  have hz := size_madeCells zeroF n
  refine ⟨⟨(madeCells zeroF n)[o]'(by rw [hz]; exact ho), ?_⟩, World.frozen?_alloc_at _ _ _ _ rfl⟩
  rw [World.cell?_alloc_at _ _ _ _ rfl]
  exact Array.getElem?_eq_getElem _

theorem own_lay {W : World} {B n k q : Nat} {F G : Nat → Feat} (h : OwnFs W B B k F G) (hT : There W B (n * 7)) (hk : k < n) (hqB : B ≤ q) (hq : q < W.heap.size) (hp : PtsAt W q 0 (F k).n (F k).X (F k).Y) (hne : q ≠ B) :
    OwnFs (lay7 W B (k * 7) { F k with a := some ⟨q, 0, none⟩, cap := (F k).n }) B B (k + 1) F (fun i => if i = k then { F k with a := some ⟨q, 0, none⟩, cap := (F k).n } else G i) := by
  obtain ⟨h1, h2, h3, h4⟩ := h
  refine ⟨h1, by rw [lay7_size]; exact h2, fun i hi => ?_, fun i hi => ?_⟩
  · by_cases e : i = k
    · subst e
      simp only [if_pos, Nat.zero_add]
      refine ⟨lay7_at hT (by omega), .inr ⟨q, 0, rfl, by rw [lay7_size]; exact hq, hp.lay (fun h => hne h.symm)⟩⟩
    · simp only [if_neg e]
      obtain ⟨c, ip⟩ := h3 i (by omega)
      obtain ⟨_, q', e1, e2, e3, e4, e5, e6⟩ := h4 i (by omega)
      refine ⟨?_, ?_⟩
      · obtain ⟨c0, c1, c2, c3, c4, c5, c6⟩ := c
        refine ⟨?_, ?_, ?_, ?_, ?_, ?_, ?_⟩ <;> (rw [lay7_other (by right; left; simp; omega)]; assumption)
      · exact .inr ⟨q', 0, e1, by rw [lay7_size]; exact e5, e6.lay (fun h => e3 h.symm)⟩
  · by_cases e : i = k
    · subst e
      simp only [if_pos]
      exact ⟨⟨rfl, rfl, rfl, rfl, rfl, rfl, rfl, rfl, rfl⟩, q, by first | rfl | trivial, by first | trivial | rfl, hne, hqB, by rw [lay7_size]; exact hq, hp.lay (fun h => hne h.symm)⟩
    · simp only [if_neg e]
      obtain ⟨sm, q', e1, e2, e3, e4, e5, e6⟩ := h4 i (by omega)
      exact ⟨sm, q', e1, e2, e3, e4, by rw [lay7_size]; exact e5, e6.lay (fun h => e3 h.symm)⟩

end Go.Proofs.YtchofahdcohibaaGreat
/- Lists of features: their size, whether two are the same, their fault. -/

namespace Go.Proofs.YtchofahdcohibaaGreat
open Go.RowKit
set_option linter.unusedSimpArgs false
set_option linter.unusedVariables false
set_option maxRecDepth 100000

/-- No feature of the list is greater than what may be asked. -/
def SmallFs (n : Nat) (F : Nat → Feat) : Prop := n ≤ 1048576 ∧ ∀ i, i < n → (F i).n ≤ 1048576 ∧ (F i).lab.size ≤ 1048576
/-- What came in: each slice and each text within its bounds. -/
def CameFs (n : Nat) (F : Nat → Feat) : Prop := n ≤ maxLen ∧ ∀ i, i < n → (F i).n ≤ maxLen ∧ (F i).lab.size ≤ maxLen

theorem szF_cases (left n s : Nat) (hl : left ≤ 1048576) : szF left n s = -1 ∨ ∃ m : Nat, szF left n s = (m : Int) ∧ m ≤ left ∧ n ≤ 1048576 ∧ s ≤ 1048576 := by
  unfold szF
  by_cases h : left < n + s
  · left; rw [if_pos h]
  · right; rw [if_neg h]; exact ⟨left - n - s, by omega, by omega, by omega, by omega⟩

set_option maxHeartbeats 4000000 in
theorem l2At_any (b n cap : Nat) (G : Nat → Feat) (i : Nat) (w : World) (hi : i < n) (hg : FsAt w b 0 n G) (hbl : b < w.heap.size) (hn : n ≤ 1048576) :
    Calls Tryz.prog 41 #[.slice (some ⟨b, 0, none⟩) n cap, .int .i64 (G i).id] w fun e w' => (∃ r : Nat, r ≤ i ∧ (G r).id = (G i).id ∧ (∀ j, j < r → (G j).id ≠ (G i).id) ∧ e = .returned (.int .i64 r)) ∧ Below w.heap.size w w' := by
  have HG : Hid (FsAt w b 0 n G) := hg
  clear hg
  have HI : Hid (i < n) := hi
  clear hi
  generalize hid : (G i).id = t
  have HT : Hid ((G i).id = t) := hid
  clear hid
  go_enter Tryz.func41, Tryz.ntmps41
  go_wp2
  go_loopw [5] (fun v wr => ∃ k : Nat, k ≤ i ∧ v = .int .i64 k ∧ (∀ j, j < k → (G j).id ≠ t) ∧ Below w.heap.size w wr) (fun v _ => n - (intOf v).toNat)
  case atStart => exact ⟨0, by omega, rfl, by omega, Below.refl _ _⟩
  case round =>
    obtain ⟨k, hk, rfl, hA, hB⟩ := hrel
    have hlt : k < n := Nat.lt_of_le_of_lt hk HI.out
    have f0 : wr.cell? ⟨b, k * 7, none⟩ = some (.int .i64 (G k).id) := by simpa using ((HG.out.below hB hbl) k hlt).1.1
    have HB : Hid (Below w.heap.size w wr) := hB
    have HA : Hid (∀ j, j < k → (G j).id ≠ t) := hA
    clear hB hA
    have hi : (k : Int) < (n : Int) := by omega
    have hi0 : (0 : Int) ≤ (k : Int) := by omega
    by_cases he : (G k).id = t
    · rw [he] at f0
      go_wp2
      go_ret
      exact ⟨⟨k, hk, he, HA.out, rfl⟩, HB.out⟩
    · have he' : ((G k).id == t) = false := by simpa using he
      have HE : Hid ((G k).id ≠ t) := he
      have hki : k ≠ i := fun e => he (by rw [e]; exact HT.out)
      clear he
      go_wp2
      go_roundw
      case rel => exact ⟨k + 1, by omega, by go_num, fun j hj => by
          by_cases e : j = k
          · rw [e]; exact HE.out
          · exact HA.out j (by omega), HB.out⟩
      case measure => simp [intOf]; omega
set_option maxHeartbeats 4000000 in
theorem hasId_any (b n cap N : Nat) (G : Nat → Feat) (t : Int) (w : World) (hnN : n ≤ N) (hg : FsAt w b 0 N G) (hbl : b < w.heap.size) (hn : n ≤ 1048576) :
    Calls Tryz.prog 46 #[.slice (some ⟨b, 0, none⟩) n cap, .int .i64 t] w fun e w' => ((e = .returned (.bool true) ∧ ∃ j, j < n ∧ (G j).id = t) ∨ (e = .returned (.bool false) ∧ ∀ j, j < n → (G j).id ≠ t)) ∧ Below w.heap.size w w' := by
  have HG : Hid (FsAt w b 0 N G) := hg
  clear hg
  go_enter Tryz.func46, Tryz.ntmps46
  go_wp2
  go_loopw [9] (fun v wr => ∃ k : Nat, k ≤ n ∧ v = .int .i64 k ∧ (∀ j, j < k → (G j).id ≠ t) ∧ Below w.heap.size w wr) (fun v _ => n - (intOf v).toNat)
  case atStart => exact ⟨0, by omega, rfl, by omega, Below.refl _ _⟩
  case round =>
    obtain ⟨k, hk, rfl, hA, hB⟩ := hrel
    have HB : Hid (Below w.heap.size w wr) := hB
    have HA : Hid (∀ j, j < k → (G j).id ≠ t) := hA
    by_cases hlt : k < n
    · obtain ⟨⟨f0, f1, f2, f3, f4, f5, f6⟩, _⟩ := (HG.out.below hB hbl) k (by omega)
      simp only [Nat.zero_add] at f0 f1 f2 f3 f4 f5 f6
      clear hB hA
      have hi : (k : Int) < (n : Int) := by omega
      have hi0 : (0 : Int) ≤ (k : Int) := by omega
      by_cases he : (G k).id = t
      · have he' : ((G k).id == t) = true := by simpa using he
        have HE : Hid ((G k).id = t) := he
        clear he
        go_wp2
        go_ret
        exact ⟨.inl ⟨rfl, k, hlt, HE.out⟩, by have HB' := HB.out; (repeat (first | exact Below.refl _ _ | assumption | refine Below.drew ?_ | refine bl_alloc ?_ _ | refine bl_then ?_ (by assumption) | refine Below.setCell ?_ (by first | omega | (simp; done) | (simp; omega)) _ | refine bl_store ?_ ?_ _ _))⟩
      · have he' : ((G k).id == t) = false := by simpa using he
        have HE : Hid ((G k).id ≠ t) := he
        clear he
        go_wp2
        go_roundw
        case rel => exact ⟨k + 1, by omega, by go_num, fun j hj => by
            by_cases e : j = k
            · rw [e]; exact HE.out
            · exact HA.out j (by omega), by have HB' := HB.out; (repeat (first | exact Below.refl _ _ | assumption | refine Below.drew ?_ | refine bl_alloc ?_ _ | refine bl_then ?_ (by assumption) | refine Below.setCell ?_ (by first | omega | (simp; done) | (simp; omega)) _ | refine bl_store ?_ ?_ _ _))⟩
        case measure => simp [intOf]; omega
    · go_wp2
      go_ret
      exact ⟨.inr ⟨rfl, fun j hj => hA j (by omega)⟩, hB⟩
end Go.Proofs.YtchofahdcohibaaGreat
/- The first of a list of codes that is not 0. -/

namespace Go.Proofs.YtchofahdcohibaaGreat
/-- The first that is not 0. -/
def scanC (c : Nat → Int) : Nat → Nat → Int
  | _, 0 => 0
  | i, k + 1 => if c i ≠ 0 then c i else scanC c (i + 1) k
theorem scan_first (c : Nat → Int) : ∀ (m i k : Nat), (∀ j, i ≤ j → j < k → c j = 0) → i ≤ k → k < i + m → c k ≠ 0 → scanC c i m = c k
  | 0, i, k, _, h1, h2, _ => by omega
  | m + 1, i, k, h, h1, h2, hne => by
    rw [scanC]
    by_cases e : i = k
    · subst e; rw [if_pos hne]
    · rw [if_neg (by rw [h i (Nat.le_refl _) (by omega)]; simp)]
      exact scan_first c m (i + 1) k (fun j hj => h j (by omega)) (by omega) (by omega) hne
theorem scan_none (c : Nat → Int) : ∀ (m i : Nat), (∀ j, i ≤ j → j < i + m → c j = 0) → scanC c i m = 0
  | 0, _, _ => rfl
  | m + 1, i, h => by
    rw [scanC, if_neg (by rw [h i (Nat.le_refl _) (by omega)]; simp)]
    exact scan_none c m (i + 1) (fun j hj hj' => h j (by omega) (by omega))
theorem scan_congr (c d : Nat → Int) : ∀ (m i : Nat), (∀ j, i ≤ j → j < i + m → c j = d j) → scanC c i m = scanC d i m
  | 0, _, _ => rfl
  | m + 1, i, h => by
    rw [scanC, scanC, h i (Nat.le_refl _) (by omega), scan_congr c d m (i + 1) (fun j hj hj' => h j (by omega) (by omega))]
theorem scan_zero (c : Nat → Int) : ∀ (m i : Nat), scanC c i m = 0 → ∀ j, i ≤ j → j < i + m → c j = 0
  | 0, i, _, j, h1, h2 => by omega
  | m + 1, i, h, j, h1, h2 => by
    rw [scanC] at h
    by_cases hc : c i ≠ 0
    · rw [if_pos hc] at h; exact absurd h hc
    · rw [if_neg hc] at h
      by_cases e : j = i
      · subst e; simpa using hc
      · exact scan_zero c m (i + 1) h j (by omega) (by omega)
end Go.Proofs.YtchofahdcohibaaGreat
/- The fault of a list of features: the program and the model. -/

namespace Go.Proofs.YtchofahdcohibaaGreat
open Go.RowKit
set_option linter.unusedSimpArgs false
set_option linter.unusedVariables false
set_option maxRecDepth 100000

/-- What is not right of one feature of a list. -/
noncomputable def codeAt (G : Nat → Feat) (i : Nat) : Int := by
  classical exact if featC (G i).id (G i).la (G i).ki (G i).wi (G i).n (G i).X (G i).Y (G i).lab (G i).pr ≠ 0 then featC (G i).id (G i).la (G i).ki (G i).wi (G i).n (G i).X (G i).Y (G i).lab (G i).pr else if ∃ j, j < i ∧ (G j).id = (G i).id then 6 else 0
noncomputable def featsC (n : Nat) (G : Nat → Feat) : Int := if 12 < n then 2 else scanC (codeAt G) 0 n
theorem codeAt_fault {G : Nat → Feat} {i : Nat} (h : featC (G i).id (G i).la (G i).ki (G i).wi (G i).n (G i).X (G i).Y (G i).lab (G i).pr ≠ 0) : codeAt G i = featC (G i).id (G i).la (G i).ki (G i).wi (G i).n (G i).X (G i).Y (G i).lab (G i).pr := by unfold codeAt; rw [if_pos h]
theorem codeAt_taken {G : Nat → Feat} {i : Nat} (h : featC (G i).id (G i).la (G i).ki (G i).wi (G i).n (G i).X (G i).Y (G i).lab (G i).pr = 0) (h2 : ∃ j, j < i ∧ (G j).id = (G i).id) : codeAt G i = 6 := by unfold codeAt; rw [if_neg (by simp [h]), if_pos h2]
theorem codeAt_ok {G : Nat → Feat} {i : Nat} (h : featC (G i).id (G i).la (G i).ki (G i).wi (G i).n (G i).X (G i).Y (G i).lab (G i).pr = 0) (h2 : ¬ ∃ j, j < i ∧ (G j).id = (G i).id) : codeAt G i = 0 := by unfold codeAt; rw [if_neg (by simp [h]), if_neg h2]
theorem codeAt_same {G H : Nat → Feat} {n i : Nat} (h : ∀ j, j < n → (G j).same (H j)) (hi : i < n) : codeAt G i = codeAt H i := by
  obtain ⟨s1, s2, s3, s4, s5, s6, s7, s8, s9⟩ := h i hi
  have e : (∃ j, j < i ∧ (G j).id = (G i).id) ↔ (∃ j, j < i ∧ (H j).id = (H i).id) := by
    constructor
    · rintro ⟨j, hj, e⟩; exact ⟨j, hj, by rw [← (h j (by omega)).1, ← s1]; exact e⟩
    · rintro ⟨j, hj, e⟩; exact ⟨j, hj, by rw [(h j (by omega)).1, s1]; exact e⟩
  unfold codeAt
  rw [s1, s2, s3, s4, s5, s6, s7, s8, s9]
  rw [s1] at e
  simp only [e]
theorem featsC_same {G H : Nat → Feat} {n : Nat} (h : ∀ j, j < n → (G j).same (H j)) : featsC n G = featsC n H := by
  unfold featsC
  rw [scan_congr (codeAt G) (codeAt H) n 0 (fun j _ hj => codeAt_same h (by omega))]

set_option maxHeartbeats 4000000 in
theorem l2Many_any (b n cap : Nat) (G : Nat → Feat) (w : World) (hg : FsAt w b 0 n G) (hbl : b < w.heap.size) (hs : SmallFs n G) :
    Calls Tryz.prog 18 #[.slice (some ⟨b, 0, none⟩) n cap] w fun e w' => e = .returned (.int .i64 (featsC n G)) ∧ Below w.heap.size w w' := by
  have HG : Hid (FsAt w b 0 n G) := hg
  have HS : Hid (SmallFs n G) := hs
  have hn := hs.1
  clear hg hs
  by_cases h12 : (12 : Int) < n
  · have hz : Hid (featsC n G = 2) := by show _ = _; unfold featsC; rw [if_pos (by omega)]
    go_enter Tryz.func18, Tryz.ntmps18
    go_wp2
    go_ret
    exact ⟨ret_int hz.out.symm, by (repeat (first | exact Below.refl _ _ | assumption | refine Below.drew ?_ | refine bl_alloc ?_ _ | refine bl_then ?_ (by assumption) | refine Below.setCell ?_ (by first | omega | (simp; done) | (simp; omega)) _ | refine bl_store ?_ ?_ _ _))⟩
  · have hz : Hid (featsC n G = scanC (codeAt G) 0 n) := by show _ = _; unfold featsC; rw [if_neg (by omega)]
    go_enter Tryz.func18, Tryz.ntmps18
    go_wp2
    go_loopw [3] (fun v wr => ∃ k : Nat, k ≤ n ∧ v = .int .i64 k ∧ (∀ j, j < k → codeAt G j = 0) ∧ Below w.heap.size w wr) (fun v _ => n - (intOf v).toNat)
    case atStart => exact ⟨0, by omega, rfl, by omega, Below.refl _ _⟩
    case round =>
      obtain ⟨k, hk, rfl, hA, hB⟩ := hrel
      have HB : Hid (Below w.heap.size w wr) := hB
      have HA : Hid (∀ j, j < k → codeAt G j = 0) := hA
      by_cases hlt : k < n
      · have HGr : Hid (FsAt wr b 0 n G) := HG.out.below hB hbl
        have hblr : b < wr.heap.size := Nat.lt_of_lt_of_le hbl hB.size
        obtain ⟨hF, hP⟩ := HGr.out k hlt
        rw [Nat.zero_add] at hF
        have HF : Hid (FeatAt wr b (k * 7) (G k).id (G k).la (G k).ki (G k).wi (.slice (G k).a (G k).n (G k).cap) (G k).lab (G k).pr) := hF
        have HP : Hid (IsPts wr (G k).a (G k).n (G k).X (G k).Y) := hP
        obtain ⟨z1, z2⟩ := HS.out.2 k hlt
        have HLT : Hid (k < n) := hlt
        clear hB hA hF hP
        have hi : (k : Int) < (n : Int) := by omega
        have hi0 : (0 : Int) ≤ (k : Int) := by omega
        go_wp2_with fail
        refine (l2Fault_any b (k * 7) _ _ _ _ _ _ _ (G k).X (G k).Y _ _ _ HF.out HP.out z2 z1).mono ?_
        rintro e w1 ⟨rfl, hb1⟩
        by_cases hc : featC (G k).id (G k).la (G k).ki (G k).wi (G k).n (G k).X (G k).Y (G k).lab (G k).pr = 0
        · rw [hc]
          have HC : Hid (featC (G k).id (G k).la (G k).ki (G k).wi (G k).n (G k).X (G k).Y (G k).lab (G k).pr = 0) := hc
          have d0 : ∀ W', Below w1.heap.size w1 W' → W'.cell? ⟨b, k * 7, none⟩ = some (.int .i64 (G k).id) := fun W' h => ((HF.out.below hb1 hblr).below h (Nat.lt_of_lt_of_le hblr hb1.size)).1
          have HG1 : Hid (FsAt w1 b 0 n G) := HGr.out.below hb1 hblr
          have hbl1 : b < w1.heap.size := Nat.lt_of_lt_of_le hblr hb1.size
          have HB1 : Hid (Below w.heap.size w w1) := bl_then HB.out hb1
          clear hc hb1
          have hr1 : Below w1.heap.size w1 w1 := Below.refl _ _
          go_wp2_with fail
          refine (l2At_any b n cap G k _ HLT.out HG1.out hbl1 hn).mono ?_
          rintro e w2 ⟨⟨r, hr, hre, hrl, rfl⟩, hb2⟩
          have HB2 : Hid (Below w.heap.size w w2) := bl_then HB1.out hb2
          clear hb2
          by_cases hrk : r = k
          · subst hrk
            have hok : codeAt G r = 0 := codeAt_ok HC.out (fun ⟨j, hj, hje⟩ => hrl j hj hje)
            have HOK : Hid (codeAt G r = 0) := hok
            clear hok hre hrl
            go_wp2
            go_roundw
            case rel => exact ⟨r + 1, by have := HLT.out; omega, by go_num, fun j hj => by
                by_cases e : j = r
                · rw [e]; exact HOK.out
                · exact HA.out j (by omega), HB2.out⟩
            case measure => have := HLT.out; simp [intOf]; omega
          · have hne : (((r : Nat) : Int) == ((k : Nat) : Int)) = false := by simp; omega
            have htk : Hid (codeAt G k = 6) := codeAt_taken HC.out ⟨r, by omega, hre⟩
            have hsc : Hid (featsC n G = 6) := by
              show _ = _
              rw [hz.out, scan_first (codeAt G) n 0 k (fun j _ hj => HA.out j hj) (by omega) (by have := HLT.out; omega) (by rw [htk.out]; decide), htk.out]
            clear hre hrl
            go_wp2
            go_ret
            exact ⟨ret_int hsc.out.symm, HB2.out⟩
        · have hsc : Hid (featsC n G = featC (G k).id (G k).la (G k).ki (G k).wi (G k).n (G k).X (G k).Y (G k).lab (G k).pr) := by
            show _ = _
            have h6 := codeAt_fault hc
            rw [hz.out, scan_first (codeAt G) n 0 k (fun j _ hj => HA.out j hj) (by omega) (by have := HLT.out; omega) (by rw [h6]; exact hc), h6]
          have hcb : (featC (G k).id (G k).la (G k).ki (G k).wi (G k).n (G k).X (G k).Y (G k).lab (G k).pr == 0) = false := by simpa using hc
          have HB1 : Hid (Below w.heap.size w w1) := bl_then HB.out hb1
          clear hc hb1
          go_wp2
          go_ret
          exact ⟨ret_int hsc.out.symm, HB1.out⟩
      · have hsc : Hid (featsC n G = 0) := by
          show _ = _
          rw [hz.out]
          exact scan_none _ _ _ (fun j _ hj => HA.out j (by omega))
        go_wp2
        go_ret
        exact ⟨ret_int hsc.out.symm, HB.out⟩
end Go.Proofs.YtchofahdcohibaaGreat
/- Features as answers: they are compared, marked, and the marks are found again. -/

namespace Go.Proofs.YtchofahdcohibaaGreat
open Go.RowKit
set_option linter.unusedSimpArgs false
set_option linter.unusedVariables false
set_option maxRecDepth 100000
/-- Block p holds an answer with a feature. -/
def RAt (w : World) (p : Nat) (c id la ki wi : Int) (v : Value) (lab : ByteArray) (pr : Int) : Prop :=
  w.cell? ⟨p, 0, none⟩ = some (.int .i64 c) ∧ w.cell? ⟨p, 1, none⟩ = some (.int .i64 id) ∧ w.cell? ⟨p, 2, none⟩ = some (.int .i64 la) ∧ w.cell? ⟨p, 3, none⟩ = some (.int .i64 ki) ∧ w.cell? ⟨p, 4, none⟩ = some (.int .i64 wi) ∧
  w.cell? ⟨p, 5, none⟩ = some v ∧ w.cell? ⟨p, 6, none⟩ = some (.string lab) ∧ w.cell? ⟨p, 7, none⟩ = some (.int .i64 pr)
theorem RAt.row {w w' : World} {p : Nat} {row : Option Nat} {c id la ki wi pr : Int} {v : Value} {lab : ByteArray} (h : RAt w p c id la ki wi v lab pr) (hg : w.grownBy w' row) (hs : ∀ s, row = some s → p ≠ s) : RAt w' p c id la ki wi v lab pr := by
  obtain ⟨h0, h1, h2, h3, h4, h5, h6, h7⟩ := h
  exact ⟨ro_cell hg h0 hs, ro_cell hg h1 hs, ro_cell hg h2 hs, ro_cell hg h3 hs, ro_cell hg h4 hs, ro_cell hg h5 hs, ro_cell hg h6 hs, ro_cell hg h7 hs⟩
theorem RAt.below {w w' : World} {p : Nat} {c id la ki wi pr : Int} {v : Value} {lab : ByteArray} (h : RAt w p c id la ki wi v lab pr) (hb : Below w.heap.size w w') : RAt w' p c id la ki wi v lab pr := h.row (grown_below (r := none) hb) (fun s hs => by cases hs)
theorem RAt.lt {w : World} {p : Nat} {c id la ki wi pr : Int} {v : Value} {lab : ByteArray} (h : RAt w p c id la ki wi v lab pr) : p < w.heap.size := World.block_lt_of_cell? _ _ h.1
theorem RAt.new (w : World) (c id la ki wi : Int) (v : Value) (lab : ByteArray) (pr : Int) (t : TypeId) : RAt (w.alloc (.cells #[.int .i64 c, .int .i64 id, .int .i64 la, .int .i64 ki, .int .i64 wi, v, .string lab, .int .i64 pr] t)) w.heap.size c id la ki wi v lab pr := by
  refine ⟨?_, ?_, ?_, ?_, ?_, ?_, ?_, ?_⟩ <;> simp [go_sem]
theorem FeatAt.row {w w' : World} {p o : Nat} {row : Option Nat} {id la ki wi pr : Int} {v : Value} {lab : ByteArray} (h : FeatAt w p o id la ki wi v lab pr) (hg : w.grownBy w' row) (hs : ∀ s, row = some s → p ≠ s) : FeatAt w' p o id la ki wi v lab pr := by
  obtain ⟨h0, h1, h2, h3, h4, h5, h6⟩ := h
  exact ⟨ro_cell hg h0 hs, ro_cell hg h1 hs, ro_cell hg h2 hs, ro_cell hg h3 hs, ro_cell hg h4 hs, ro_cell hg h5 hs, ro_cell hg h6 hs⟩
theorem FeatAt.new (w : World) (id la ki wi : Int) (v : Value) (lab : ByteArray) (pr : Int) (t : TypeId) : FeatAt (w.alloc (.cells #[.int .i64 id, .int .i64 la, .int .i64 ki, .int .i64 wi, v, .string lab, .int .i64 pr] t)) w.heap.size 0 id la ki wi v lab pr := by
  refine ⟨?_, ?_, ?_, ?_, ?_, ?_, ?_⟩ <;> simp [go_sem]
theorem FeatAt.lt {w : World} {p o : Nat} {id la ki wi pr : Int} {v : Value} {lab : ByteArray} (h : FeatAt w p o id la ki wi v lab pr) : p < w.heap.size := World.block_lt_of_cell? _ _ h.1
end Go.Proofs.YtchofahdcohibaaGreat
