/- Boxes of labels: how lists of them lie in memory; they are copied and compared. -/
import Derived.Test.YtbijdoddalfedaaDoorWith
import Derived.Test.YtbijdoddalfedaaDoorSet2
import Derived.Deep.RegionHeld3
import Derived.Deep.OwnRows
import Derived.Deep.LoopGhost
import Derived.Laws.OwnMore
namespace Go.Proofs.YtbijdoddalfedaaDoor
open Go.RowKit
set_option linter.unusedSimpArgs false
set_option linter.unusedVariables false
set_option maxRecDepth 100000

/-- A box of a label: its Id, X, Y, W and H. -/
structure Plc where
  id : Int
  a : Int
  b : Int
  c : Int
  d : Int
abbrev plcV (e : Plc) : Value := .agg #[.int .i64 e.id, .int .i64 e.a, .int .i64 e.b, .int .i64 e.c, .int .i64 e.d]
def PlcAt (w : World) (p o : Nat) (e : Plc) : Prop := w.cell? ⟨p, o, none⟩ = some (.int .i64 e.id) ∧ w.cell? ⟨p, o + 1, none⟩ = some (.int .i64 e.a) ∧ w.cell? ⟨p, o + 2, none⟩ = some (.int .i64 e.b) ∧ w.cell? ⟨p, o + 3, none⟩ = some (.int .i64 e.c) ∧ w.cell? ⟨p, o + 4, none⟩ = some (.int .i64 e.d)
theorem PlcAt.below {w w' : World} {p o B : Nat} {e : Plc} (h : PlcAt w p o e) (hb : Below B w w') (hp : p < B) : PlcAt w' p o e := by
  obtain ⟨h0, h1, h2, h3, h4⟩ := h
  exact ⟨(hb.cell (p := ⟨p, o, none⟩) hp).trans h0, (hb.cell (p := ⟨p, o + 1, none⟩) hp).trans h1, (hb.cell (p := ⟨p, o + 2, none⟩) hp).trans h2, (hb.cell (p := ⟨p, o + 3, none⟩) hp).trans h3, (hb.cell (p := ⟨p, o + 4, none⟩) hp).trans h4⟩
/-- From the address on lie n entries. -/
def LbAt (w : World) (p off n : Nat) (E : Nat → Plc) : Prop := ∀ i, i < n → PlcAt w p (off + i * 5) (E i)
theorem LbAt.below {w w' : World} {p off n B : Nat} {E : Nat → Plc} (h : LbAt w p off n E) (hb : Below B w w') (hp : p < B) : LbAt w' p off n E := fun i hi => (h i hi).below hb hp
def IsLb (w : World) (a : Option Addr) (n : Nat) (E : Nat → Plc) : Prop := n = 0 ∨ ∃ b off, a = some ⟨b, off, none⟩ ∧ b < w.heap.size ∧ LbAt w b off n E
theorem IsLb.below {w w' : World} {a : Option Addr} {n : Nat} {E : Nat → Plc} (h : IsLb w a n E) (hb : Below w.heap.size w w') : IsLb w' a n E := by
  rcases h with h | ⟨b, off, e, hl, hp⟩
  · exact .inl h
  · exact .inr ⟨b, off, e, Nat.lt_of_lt_of_le hl hb.size, hp.below hb hl⟩
theorem There.setP {W : World} {r n : Nat} (h : There W r n) (o : Nat) (v : Value) : There (W.setCell ⟨r, o, none⟩ v) r n := fun o' ho => by
  obtain ⟨u, hu⟩ := (h o' ho).1
  refine ⟨?_, ?_⟩
  · by_cases e : o = o'
    · subst e
      exact ⟨v, World.cell?_setCell_same _ _ _ (by rw [hu])⟩
    · exact ⟨u, by rw [World.cell?_setCell_other]; exact hu; simp [e]⟩
  · rw [World.frozen?_setCell]; exact (h o' ho).2
theorem There.outP {w : World} {O r n o : Nat} {x : Value} (h : There w r n) (hne : O ≠ r) : There (w.setCell ⟨O, o, none⟩ x) r n := fun i hi => by
  obtain ⟨u, hu⟩ := (h i hi).1
  refine ⟨⟨u, ?_⟩, ?_⟩
  · rw [set1_other (fun e => hne (by injection e))]; exact hu
  · rw [World.frozen?_setCell]; exact (h i hi).2
/-- Five stores: an entry is laid. -/
def layP (W : World) (B o : Nat) (e : Plc) : World := (((((W.setCell ⟨B, o, none⟩ (.int .i64 e.id)).setCell ⟨B, o + 1, none⟩ (.int .i64 e.a)).setCell ⟨B, o + 2, none⟩ (.int .i64 e.b)).setCell ⟨B, o + 3, none⟩ (.int .i64 e.c)).setCell ⟨B, o + 4, none⟩ (.int .i64 e.d))
theorem layP_other {W : World} {B o : Nat} {e : Plc} {p : Addr} (h : p.block ≠ B ∨ p.off < o ∨ o + 4 < p.off) : (layP W B o e).cell? p = W.cell? p := by
  have ne : ∀ k : Nat, k ≤ 4 → (⟨B, o + k, none⟩ : Addr) ≠ p := fun k hk e => by subst e; simp at h; omega
  have ne0 : (⟨B, o, none⟩ : Addr) ≠ p := ne 0 (by omega)
  unfold layP
  rw [set1_other (ne 4 (by omega)), set1_other (ne 3 (by omega)), set1_other (ne 2 (by omega)), set1_other (ne 1 (by omega)), set1_other ne0]
theorem layP_there {W : World} {B o m : Nat} {e : Plc} (h : There W B m) : There (layP W B o e) B m := by
  unfold layP
  exact (((((h.setP _ _).setP _ _).setP _ _).setP _ _).setP _ _)
theorem layP_size (W : World) (B o : Nat) (e : Plc) : (layP W B o e).heap.size = W.heap.size := by unfold layP; simp
theorem layP_below {V W : World} {n B o : Nat} {e : Plc} (h : Below n V W) (hB : n ≤ B) : Below n V (layP W B o e) := by
  unfold layP
  exact (((((h.setCell hB _).setCell hB _).setCell hB _).setCell hB _).setCell hB _)
theorem layP_at {W : World} {B o m : Nat} {e : Plc} (h : There W B m) (ho : o + 4 < m) : PlcAt (layP W B o e) B o e := by
  have ne : ∀ i j : Nat, i ≠ j → (⟨B, i, none⟩ : Addr) ≠ ⟨B, j, none⟩ := fun i j hij h => hij (by injection h)
  obtain ⟨u0, g0⟩ := (h (o) (by omega)).1
  obtain ⟨u1, g1⟩ := ((h.setP (o) (.int .i64 e.id)) (o + 1) (by omega)).1
  obtain ⟨u2, g2⟩ := (((h.setP (o) (.int .i64 e.id)).setP (o + 1) (.int .i64 e.a)) (o + 2) (by omega)).1
  obtain ⟨u3, g3⟩ := ((((h.setP (o) (.int .i64 e.id)).setP (o + 1) (.int .i64 e.a)).setP (o + 2) (.int .i64 e.b)) (o + 3) (by omega)).1
  obtain ⟨u4, g4⟩ := (((((h.setP (o) (.int .i64 e.id)).setP (o + 1) (.int .i64 e.a)).setP (o + 2) (.int .i64 e.b)).setP (o + 3) (.int .i64 e.c)) (o + 4) (by omega)).1
  unfold layP
  refine ⟨?_, ?_, ?_, ?_, ?_⟩
  · rw [set1_other (ne (o + 4) (o) (by omega)), set1_other (ne (o + 3) (o) (by omega)), set1_other (ne (o + 2) (o) (by omega)), set1_other (ne (o + 1) (o) (by omega))]; exact set1_same g0
  · rw [set1_other (ne (o + 4) (o + 1) (by omega)), set1_other (ne (o + 3) (o + 1) (by omega)), set1_other (ne (o + 2) (o + 1) (by omega))]; exact set1_same g1
  · rw [set1_other (ne (o + 4) (o + 2) (by omega)), set1_other (ne (o + 3) (o + 2) (by omega))]; exact set1_same g2
  · rw [set1_other (ne (o + 4) (o + 3) (by omega))]; exact set1_same g3
  · exact set1_same g4
theorem LbAt.lay {W : World} {B n k : Nat} {E : Nat → Plc} (h : LbAt W B 0 k E) (hT : There W B (n * 5)) (hk : k < n) : LbAt (layP W B (k * 5) (E k)) B 0 (k + 1) E := fun i hi => by
  by_cases e : i = k
  · subst e
    rw [Nat.zero_add]
    exact layP_at hT (by omega)
  · have h' := h i (by omega)
    unfold PlcAt at h' ⊢
    rw [layP_other (.inr (.inl (by simp; omega))), layP_other (.inr (.inl (by simp; omega))), layP_other (.inr (.inl (by simp; omega))), layP_other (.inr (.inl (by simp; omega))), layP_other (.inr (.inl (by simp; omega)))]
    exact h'
abbrev zeroP : Array Value := #[.int .i64 0, .int .i64 0, .int .i64 0, .int .i64 0, .int .i64 0]
theorem info_pl : (Tryd.prog.info? 34).map (fun i => (i.zero, i.size, i.bytes)) = some (some (.agg zeroP), 5, 40) := by kernel_rfl
theorem make_plcs (n : Nat) (h : n ≤ 1048576) (w : World) :
    (Instr.makeSlice 27 (.int .i64 (n : Int)) (.int .i64 (n : Int))).run Tryd.prog w = .ok (.slice (some ⟨w.heap.size, 0, none⟩) n n) (w.alloc (.cells (madeCells zeroP (n * 5)) 34)) := by
  obtain ⟨i, hi, hz, hs, hb⟩ := info_parts info_pl
  have hr := run_make (P := Tryd.prog) w 27 34 i _ Tryd.underlying27 hi hz .i64 .i64 (n : Int) (n : Int) (by omega) (Int.le_refl _) (by rw [hb]; omega) (by omega)
  simp only [Int.toNat_natCast, hs] at hr
  exact hr
theorem there_madeP (n : Nat) (w : World) (t : TypeId) : There (w.alloc (.cells (madeCells zeroP n) t)) w.heap.size n := fun o ho => by
  have hz := size_madeCells zeroP n
  refine ⟨⟨(madeCells zeroP n)[o]'(by rw [hz]; exact ho), ?_⟩, World.frozen?_alloc_at _ _ _ _ rfl⟩
  rw [World.cell?_alloc_at _ _ _ _ rfl]
  exact Array.getElem?_eq_getElem _

theorem toPlaced_any (e : Plc) (w : World) : Calls Tryd.prog 12 #[plcV e] w fun r w' => r = .returned (plcV e) ∧ Below w.heap.size w w' := by
  go_enter Tryd.func12, Tryd.ntmps12
  go_wp2
  exact bodyPost_ret (v := plcV e) (by simp [results, Tryd.results12, go_sem]) rfl ⟨rfl, by (repeat (first | exact Below.refl _ _ | assumption | refine Below.drew ?_ | refine bl_alloc ?_ _ | refine bl_then ?_ (by assumption) | refine Below.setCell ?_ (by first | omega | (simp; done) | (simp; omega)) _ | refine bl_store ?_ ?_ _ _))⟩
set_option maxHeartbeats 4000000 in
theorem toPlacedS_any (a : Option Addr) (n cap : Nat) (E : Nat → Plc) (w : World) (hp : IsLb w a n E) (hmax : n ≤ 1048576) :
    Calls Tryd.prog 6 #[.slice a n cap] w fun e w' => ∃ b, e = .returned (.slice (some ⟨b, 0, none⟩) n n) ∧ w.heap.size ≤ b ∧ b < w'.heap.size ∧ LbAt w' b 0 n E ∧ There w' b (n * 5) ∧ Below w.heap.size w w' := by
  have hmk := make_plcs n hmax
  have HP : Hid (IsLb w a n E) := hp
  clear hp
  go_enter Tryd.func6, Tryd.ntmps6
  go_wp2
  generalize hW : (w.alloc _ : World) = W
  have HB0 : Hid (Below w.heap.size w W) := by show Below _ _ _; subst hW; (repeat (first | exact Below.refl _ _ | assumption | refine Below.drew ?_ | refine bl_alloc ?_ _ | refine bl_then ?_ (by assumption) | refine Below.setCell ?_ (by first | omega | (simp; done) | (simp; omega)) _ | refine bl_store ?_ ?_ _ _))
  have HT0 : Hid (There W w.heap.size (n * 5)) := by show There _ _ _; subst hW; exact there_madeP _ _ _
  have HL0 : Hid (w.heap.size < W.heap.size) := by show _ < _; subst hW; simp
  clear hW hmk
  go_loopw [4] (fun i wr => ∃ (k : Nat), k ≤ n ∧ i = .int .i64 k ∧ Below w.heap.size w wr ∧ There wr w.heap.size (n * 5) ∧ LbAt wr w.heap.size 0 k E ∧ w.heap.size < wr.heap.size) (fun i _ => n - (intOf i).toNat)
  case atStart => exact ⟨0, by omega, rfl, HB0.out, HT0.out, fun i hi => by omega, HL0.out⟩
  case round =>
    obtain ⟨k, hk, rfl, hB, hT, hO, hlw⟩ := hrel
    by_cases hlt : k < n
    · rcases HP.out with h0 | ⟨b, off, rfl, hbl, hpt⟩
      · omega
      · obtain ⟨f0, f1, f2, f3, f4⟩ := (hpt.below hB hbl) k hlt
        have HB : Hid (Below w.heap.size w wr) := hB
        have HT : Hid (There wr w.heap.size (n * 5)) := hT
        have HO : Hid (LbAt wr w.heap.size 0 k E) := hO
        clear hB hT hO hpt
        have hi : (k : Int) < (n : Int) := by omega
        have hi0 : (0 : Int) ≤ (k : Int) := by omega
        go_wp2_with fail
        refine (toPlaced_any (E k) _).mono ?_
        rintro e w' ⟨rfl, hb⟩
        have hT' := HT.out.below hb
        have t0 := hT'.cell (k * 5 + 0) (by omega)
        have t1 := hT'.cell (k * 5 + 1) (by omega)
        have t2 := hT'.cell (k * 5 + 2) (by omega)
        have t3 := hT'.cell (k * 5 + 3) (by omega)
        have t4 := hT'.cell (k * 5 + 4) (by omega)
        have y0 := (hT' (k * 5 + 0) (by omega)).2
        have y1 := (hT' (k * 5 + 1) (by omega)).2
        have y2 := (hT' (k * 5 + 2) (by omega)).2
        have y3 := (hT' (k * 5 + 3) (by omega)).2
        have y4 := (hT' (k * 5 + 4) (by omega)).2
        simp only [Nat.add_zero] at t0 y0
        have HT' : Hid (There w' w.heap.size (n * 5)) := hT'
        have HBn : Hid (Below wr.heap.size wr w') := hb
        clear hT' hb f0 f1 f2 f3 f4
        go_wp2
        go_roundw
        case rel =>
          refine ⟨k + 1, by omega, by go_num, ?_, ?_, ?_, ?_⟩
          · exact layP_below (e := E k) (B := w.heap.size) (o := k * 5) (HB.out.trans (HBn.out.mono HB.out.size)) (Nat.le_refl _)
          · exact layP_there (e := E k) (B := w.heap.size) (o := k * 5) HT'.out
          · exact LbAt.lay (HO.out.below HBn.out hlw) HT'.out hlt
          · have := HBn.out.size
            show _ < (layP w' w.heap.size (k * 5) (E k)).heap.size
            rw [layP_size]; omega
        case measure => simp [intOf]; omega
    · go_wp2
      go_ret
      have hkn : k = n := by omega
      subst hkn
      exact ⟨_, rfl, Nat.le_refl _, hlw, hO, hT, hB⟩
theorem eqPlaced_any (e : Plc) (w : World) : Calls Tryd.prog 15 #[plcV e, plcV e] w fun r w' => r = .returned (.bool true) ∧ Below w.heap.size w w' := by
  go_enter Tryd.func15, Tryd.ntmps15
  go_wp2
  go_ret
  exact ⟨rfl, by (repeat (first | exact Below.refl _ _ | assumption | refine Below.drew ?_ | refine bl_alloc ?_ _ | refine bl_then ?_ (by assumption) | refine Below.setCell ?_ (by first | omega | (simp; done) | (simp; omega)) _ | refine bl_store ?_ ?_ _ _))⟩
set_option maxHeartbeats 4000000 in
theorem eqPlacedS_any (a a' : Option Addr) (n cap cap' : Nat) (E : Nat → Plc) (w : World) (hp : IsLb w a n E) (hq : IsLb w a' n E) (hmax : n ≤ 1048576) :
    Calls Tryd.prog 9 #[.slice a n cap, .slice a' n cap'] w fun e w' => e = .returned (.bool true) ∧ Below w.heap.size w w' := by
  have HP : Hid (IsLb w a n E) := hp
  have HQ : Hid (IsLb w a' n E) := hq
  clear hp hq
  go_enter Tryd.func9, Tryd.ntmps9
  go_wp2
  go_loopw [5] (fun i wr => ∃ k : Nat, k ≤ n ∧ i = .int .i64 k ∧ Below w.heap.size w wr) (fun i _ => n - (intOf i).toNat)
  case atStart => exact ⟨0, by omega, rfl, Below.refl _ _⟩
  case round =>
    obtain ⟨k, hk, rfl, hB⟩ := hrel
    by_cases hlt : k < n
    · rcases HP.out with h0 | ⟨b, off, rfl, hb, hpt⟩
      · omega
      rcases HQ.out with h0 | ⟨d, off', rfl, hd, hqt⟩
      · omega
      have hpr := hpt.below hB hb
      have hqr := hqt.below hB hd
      have hbr : b < wr.heap.size := Nat.lt_of_lt_of_le hb hB.size
      have hdr : d < wr.heap.size := Nat.lt_of_lt_of_le hd hB.size
      have c0 : ∀ W', Below wr.heap.size wr W' → W'.cell? ⟨b, off + k * 5, none⟩ = some (.int .i64 (E k).id) := fun W' h => (hpr.below h hbr k hlt).1
      have c1 : ∀ W', Below wr.heap.size wr W' → W'.cell? ⟨b, off + k * 5 + 1, none⟩ = some (.int .i64 (E k).a) := fun W' h => (hpr.below h hbr k hlt).2.1
      have c2 : ∀ W', Below wr.heap.size wr W' → W'.cell? ⟨b, off + k * 5 + 2, none⟩ = some (.int .i64 (E k).b) := fun W' h => (hpr.below h hbr k hlt).2.2.1
      have c3 : ∀ W', Below wr.heap.size wr W' → W'.cell? ⟨b, off + k * 5 + 3, none⟩ = some (.int .i64 (E k).c) := fun W' h => (hpr.below h hbr k hlt).2.2.2.1
      have c4 : ∀ W', Below wr.heap.size wr W' → W'.cell? ⟨b, off + k * 5 + 4, none⟩ = some (.int .i64 (E k).d) := fun W' h => (hpr.below h hbr k hlt).2.2.2.2
      have d0 : ∀ W', Below wr.heap.size wr W' → W'.cell? ⟨d, off' + k * 5, none⟩ = some (.int .i64 (E k).id) := fun W' h => (hqr.below h hdr k hlt).1
      have d1 : ∀ W', Below wr.heap.size wr W' → W'.cell? ⟨d, off' + k * 5 + 1, none⟩ = some (.int .i64 (E k).a) := fun W' h => (hqr.below h hdr k hlt).2.1
      have d2 : ∀ W', Below wr.heap.size wr W' → W'.cell? ⟨d, off' + k * 5 + 2, none⟩ = some (.int .i64 (E k).b) := fun W' h => (hqr.below h hdr k hlt).2.2.1
      have d3 : ∀ W', Below wr.heap.size wr W' → W'.cell? ⟨d, off' + k * 5 + 3, none⟩ = some (.int .i64 (E k).c) := fun W' h => (hqr.below h hdr k hlt).2.2.2.1
      have d4 : ∀ W', Below wr.heap.size wr W' → W'.cell? ⟨d, off' + k * 5 + 4, none⟩ = some (.int .i64 (E k).d) := fun W' h => (hqr.below h hdr k hlt).2.2.2.2
      have HB : Hid (Below w.heap.size w wr) := hB
      have HLT : Hid (k < n) := hlt
      clear hB hpt hqt hpr hqr
      have hi : (k : Int) < (n : Int) := by omega
      have hi0 : (0 : Int) ≤ (k : Int) := by omega
      go_wp2
      go_region_held3 (fun W' => Below wr.heap.size wr W') ((repeat (first | exact Below.refl _ _ | assumption | refine Below.drew ?_ | refine bl_alloc ?_ _ | refine bl_then ?_ (by assumption) | refine Below.setCell ?_ (by first | omega | (simp; done) | (simp; omega)) _ | refine bl_store ?_ ?_ _ _)))
        (first
          | (go_at_call 15; refine (eqPlaced_any (E k) _).mono ?_; rintro e w' ⟨rfl, hb⟩)
          | fail)
      go_wp2
      go_roundw
      case rel => exact ⟨k + 1, by have := HLT.out; omega, by go_num, bl_then HB.out (by assumption)⟩
      case measure => have := HLT.out; simp [intOf]; omega
    · go_wp2
      go_ret
      exact ⟨rfl, hB⟩
theorem szPlacedS_no (a : Option Addr) (n cap left : Nat) (w : World) (hl : left ≤ 1048576) (hn : left < n) (hm : n ≤ maxLen) :
    Calls Tryd.prog 4 #[.slice a n cap, .int .i64 (left : Int)] w fun e w' => e = .returned (.int .i64 (-1)) ∧ Below w.heap.size w w' := by
  unfold maxLen at hm
  have hneg : (left : Int) - (n : Int) < 0 := by omega
  go_enter Tryd.func4, Tryd.ntmps4
  go_wp2
  go_ret
  exact ⟨rfl, by (repeat (first | exact Below.refl _ _ | assumption | refine Below.drew ?_ | refine bl_alloc ?_ _ | refine bl_then ?_ (by assumption) | refine Below.setCell ?_ (by first | omega | (simp; done) | (simp; omega)) _ | refine bl_store ?_ ?_ _ _))⟩
theorem szPlacedS_ok (a : Option Addr) (n cap left : Nat) (w : World) (hl : left ≤ 1048576) (hn : n ≤ left) :
    Calls Tryd.prog 4 #[.slice a n cap, .int .i64 (left : Int)] w fun e w' => e = .returned (.int .i64 ((left : Int) - (n : Int))) ∧ Below w.heap.size w w' := by
  have hneg : ¬ (left : Int) - (n : Int) < 0 := by omega
  go_enter Tryd.func4, Tryd.ntmps4
  go_wp2
  go_ret
  exact ⟨rfl, by (repeat (first | exact Below.refl _ _ | assumption | refine Below.drew ?_ | refine bl_alloc ?_ _ | refine bl_then ?_ (by assumption) | refine Below.setCell ?_ (by first | omega | (simp; done) | (simp; omega)) _ | refine bl_store ?_ ?_ _ _))⟩
end Go.Proofs.YtbijdoddalfedaaDoor
