/- Several texts in one. -/
import Derived.Test.YthadmnhpjklmiaaGreatVServeTile41
import Derived.Test.YthadmnhpjklmiaaGreatVServeTile9
import Derived.Lib.AppendStr
import Derived.Deep.DeepCutAuto
import Derived.Test.YthadmnhpjklmiaaGreatVServeTile4

/- Numbers, a label and points are put behind bytes: the program's way. What holds no bytes is as it was. -/

namespace Go.Proofs.YthadmnhpjklmiaaGreat
open Go.RowKit
set_option linter.unusedSimpArgs false
set_option linter.unusedVariables false
set_option maxRecDepth 100000

/-- What holds no bytes is as it was. -/
def NB (w w' : World) : Prop := ∀ (k : Nat) (cur : Array Value) (t : TypeId) (fz : Nat × Nat), w.heap[k]? = some (Obj.cells cur t fz) → t ≠ 5 → w'.heap[k]? = some (Obj.cells cur t fz)
theorem NB.refl (w : World) : NB w w := fun _ _ _ _ h _ => h
theorem NB.trans {a b c : World} (h : NB a b) (k : NB b c) : NB a c := fun i cur t fz h1 h2 => k i cur t fz (h i cur t fz h1 h2) h2
theorem NB.of_below {w w' : World} (h : Below w.heap.size w w') : NB w w' := fun k cur t fz h1 _ => (h.block k (lt_of_heap h1)).trans h1
theorem NB.of_grown {base : Nat} {w w' : World} {v : Value} {n : Nat} {l : List Value} (hR : w.ownsRow base 5 1 v n l) (hg : w.grownBy w' v.ownBlock) : NB w w' := fun k cur t fz h1 h2 => by
  refine (hg.block k (lt_of_heap h1) (fun e => ?_)).trans h1
  obtain ⟨cur', hc⟩ := heap_of_row hR k e.symm
  rw [h1] at hc
  injection hc with hc
  injection hc with _ hc2
  exact h2 hc2
theorem NB.set {w w' : World} (h : NB w w') {r o : Nat} (hr : w.heap.size ≤ r) (v : Value) : NB w (w'.setCell ⟨r, o, none⟩ v) := fun k cur t fz h1 h2 => by
  rw [Below.heap_setCell _ _ _ _ (by have := lt_of_heap h1; simp; omega)]
  exact h k cur t fz h1 h2
/-- Block r holds a point. -/
def PtB (w : World) (r : Nat) (x y : Int) : Prop := w.heap[r]? = some (Obj.cells #[.int .i64 x, .int .i64 y] 84 (0, 0))
theorem PtB.cells {w : World} {r : Nat} {x y : Int} (h : PtB w r x y) : w.cell? ⟨r, 0, none⟩ = some (.int .i64 x) ∧ w.cell? ⟨r, 1, none⟩ = some (.int .i64 y) ∧ w.frozen? ⟨r, 0, none⟩ = false ∧ w.frozen? ⟨r, 1, none⟩ = false := by
  unfold PtB at h
  refine ⟨?_, ?_, ?_, ?_⟩ <;> simp [World.cell?, World.frozen?, h]
theorem PtB.lt {w : World} {r : Nat} {x y : Int} (h : PtB w r x y) : r < w.heap.size := lt_of_heap h
theorem PtB.nb {w w' : World} {r : Nat} {x y : Int} (h : PtB w r x y) (hn : NB w w') : PtB w' r x y := hn _ _ _ _ h (by decide)
theorem PtB.new (w : World) (x y : Int) : PtB (w.alloc (.cells #[.int .i64 x, .int .i64 y] 84)) w.heap.size x y := by simp [PtB, World.alloc, -World.alloc_eq]
theorem PtB.alloc {w : World} {r : Nat} {x y : Int} (h : PtB w r x y) (o : Obj) : PtB (w.alloc o) r x y := h.nb (NB.of_below ((Below.refl _ _).alloc (Nat.le_refl _) _))
theorem PtB.set {w : World} {r : Nat} {x y x' y' : Int} (h : PtB w r x y) : PtB ((w.setCell ⟨r, 0, none⟩ (.int .i64 x')).setCell ⟨r, 1, none⟩ (.int .i64 y')) r x' y' := by
  have h1 := heap_setCell_same w r 0 _ 84 (.int .i64 x') h
  have h2 := heap_setCell_same _ r 1 _ 84 (.int .i64 y') h1
  simpa [PtB] using h2
theorem RowB.pt {base r o : Nat} {w : World} {v u : Value} {l : List Int} {cur : Array Value} {t : TypeId} {fz : Nat × Nat} (h : RowB base w v l) (hp : w.heap[r]? = some (Obj.cells cur t fz)) (ht : t ≠ 5) : RowB base (w.setCell ⟨r, o, none⟩ u) v l := by
  refine ownsRow_of h fun g hg => Below.heap_setCell _ _ _ _ (fun e => ?_)
  obtain ⟨cur', hc⟩ := heap_of_row h g hg
  simp at e
  subst e
  rw [hp] at hc
  injection hc with hc
  injection hc with _ hc2
  exact ht hc2
theorem RowB.set2 {base r : Nat} {w : World} {v : Value} {l : List Int} {x y x' y' : Int} (h : RowB base w v l) (hp : PtB w r x y) : RowB base ((w.setCell ⟨r, 0, none⟩ (.int .i64 x')).setCell ⟨r, 1, none⟩ (.int .i64 y')) v l :=
  RowB.pt (RowB.pt h hp (by decide)) (heap_setCell_same w r 0 _ 84 (.int .i64 x') hp) (by decide)

set_option maxHeartbeats 4000000 in
theorem putNumber_nb (base : Nat) (v : Value) (l : List Int) (n : Nat) (w : World) (hO : RowB base w v l) (hbase : base ≤ w.heap.size) (hn : n ≤ 1099511627776) (hl : l.length ≤ 2000) :
    Calls Tryz.prog 67 #[v, .int .u64 (n : Int)] w fun e w' => ∃ v', e = .returned v' ∧ RowB base w' v' (l ++ putI n) ∧ Below base w w' ∧ NB w w' := by
  obtain ⟨i0, hi, hz0, hz1, hz2⟩ := info_parts info_u8
  have HO : Hid (RowB base w v l) := hO
  clear hO
  go_enter Tryz.func67, Tryz.ntmps67
  go_wp2_with fail
  go_loopw [0, 1] (fun u m wr => ∃ (k : Nat) (l' : List Int), m = .int .u64 (k : Int) ∧ k ≤ 1099511627776 ∧ l' ++ putI k = l ++ putI n ∧ RowB base wr u l' ∧ base ≤ wr.heap.size ∧ Below base w wr ∧ NB w wr) (fun _ m _ => (intOf m).toNat)
  case atStart => exact ⟨n, l, rfl, hn, rfl, HO.out, hbase, Below.refl _ _, NB.refl _⟩
  case round =>
    obtain ⟨k, l', rfl, hk, hlk, hO, hbs, hB, hN⟩ := hrel
    have HN' : Hid (NB w wr) := hN
    have HL : Hid (l' ++ putI k = l ++ putI n) := hlk
    have HO' : Hid (RowB base wr u0 l') := hO
    have HB' : Hid (Below base w wr) := hB
    have hlen : l'.length ≤ 2006 := by have h6 := putI_len6 n hn; have h7 := congrArg List.length HL.out; simp at h7; omega
    clear hlk hO hB HO hN
    by_cases hlt : k < 128
    · have h1 : ¬ (128 : Int) ≤ (k : Int) := by omega
      have e1 : IntKind.u8.wrap (k : Int) = (k : Int) := by rw [IntKind.wrap_u8]; omega
      go_wp2_with (first
        | (at_builtin; go_must (refine wpList_append_own _ rfl _ _ 40 rfl base 5 i0 (.int .u8 0) 1 1 Tryz.underlying40 hi hz0 hz1 hz2 rfl (by decide) _ l'.length (cellsB l') rfl (HO'.out.alloc _) ⟨wr.heap.size, 0, none⟩ 1 1 [.int .u8 (k : Int)] rfl rfl ?c1 ?c2 ?c3 ?c4 ?c5 ?_)))
      case c2 => first | rfl | (intro u hu; simp at hu; subst hu; rfl)
      case c3 => unfold maxLen; omega
      case c4 => omega
      case c5 => first | (simp; omega) | omega
      intro v' w3 hown' hgrow hnil
      have hBa : Below base wr (wr.alloc (.cells #[.int .u8 (k : Int)] 5)) := (Below.refl _ _).alloc hbs _
      have hBg : Below base (wr.alloc (.cells #[.int .u8 (k : Int)] 5)) w3 := (Below.refl _ _).grown hgrow (by simp; omega) (fun k hk => (HO'.out.lt k hk).1)
      have HN3 : Hid (NB w w3) := (HN'.out.trans (NB.of_below ((Below.refl _ _).alloc (Nat.le_refl _) _))).trans (NB.of_grown (HO'.out.alloc _) hgrow)
      have HB3 : Hid (Below base w w3) := (HB'.out.trans hBa).trans hBg
      have HO3 : Hid (RowB base w3 v' (l' ++ [(k : Int)])) := by
        show RowB _ _ _ _
        unfold RowB
        rw [cellsB_add]
        simpa [cellsB] using hown'
      have HL3 : Hid (l' ++ [(k : Int)] = l ++ putI n) := by show _ = _; rw [← HL.out, putI_small hlt]
      clear hown' hgrow hnil hBa hBg HL HO' HB' HN'
      go_wp2
      go_ret
      exact ⟨_, rfl, by rw [← HL3.out]; exact HO3.out, HB3.out, HN3.out⟩
    · have h1 : (128 : Int) ≤ (k : Int) := by omega
      have e1 : IntKind.u8.wrap (k : Int) = ((k % 256 : Nat) : Int) := by rw [IntKind.wrap_u8]; omega
      obtain ⟨q, hq⟩ : ∃ q : Nat, k % 128 + 128 = q := ⟨_, rfl⟩
      have e2 : bits .or .u8 ((k : Int) % 256) 128 = (q : Int) := by have := or128_u8 (k % 256) (by omega); rw [show ((k % 256 : Nat) : Int) = (k : Int) % 256 by omega] at this; rw [this]; omega
      have HQ : Hid (k % 128 + 128 = q) := hq
      clear hq
      clear e1
      go_wp2_with (first
        | (at_builtin; go_must (refine wpList_append_own _ rfl _ _ 40 rfl base 5 i0 (.int .u8 0) 1 1 Tryz.underlying40 hi hz0 hz1 hz2 rfl (by decide) _ l'.length (cellsB l') rfl (HO'.out.alloc _) ⟨wr.heap.size, 0, none⟩ 1 1 [.int .u8 (q : Int)] rfl rfl ?d1 ?d2 ?d3 ?d4 ?d5 ?_)))
      case d1 =>
        intro j u hj
        match j, hj with
        | 0, hj => simp at hj; subst hj; simp [Addr.add, go_sem]
        | j + 1, hj => simp at hj
      case d2 => first | rfl | (intro u hu; simp at hu; subst hu; rfl)
      case d3 => unfold maxLen; omega
      case d4 => omega
      case d5 => first | (simp; omega) | omega
      intro v' w3 hown' hgrow hnil
      have hBa : Below base wr (wr.alloc (.cells #[.int .u8 (q : Int)] 5)) := (Below.refl _ _).alloc hbs _
      have hBg : Below base (wr.alloc (.cells #[.int .u8 (q : Int)] 5)) w3 := (Below.refl _ _).grown hgrow (by simp; omega) (fun k hk => (HO'.out.lt k hk).1)
      have HN3 : Hid (NB w w3) := (HN'.out.trans (NB.of_below ((Below.refl _ _).alloc (Nat.le_refl _) _))).trans (NB.of_grown (HO'.out.alloc _) hgrow)
      have HB3 : Hid (Below base w w3) := (HB'.out.trans hBa).trans hBg
      have hz : base ≤ w3.heap.size := by have := hBg.size; simp at this; omega
      have HO3 : Hid (RowB base w3 v' (l' ++ [(q : Int)])) := by
        show RowB _ _ _ _
        unfold RowB
        rw [cellsB_add]
        simpa [cellsB] using hown'
      have HL3 : Hid ((l' ++ [(q : Int)]) ++ putI (k / 128) = l ++ putI n) := by show _ = _; rw [← HL.out, putI_big hlt, HQ.out]; simp
      clear hown' hgrow hnil hBa hBg HL HO' HB' HN'
      obtain ⟨r, hr⟩ : ∃ r : Nat, k / 128 = r := ⟨_, rfl⟩
      have e5 : (k : Int) / 128 = (r : Int) := by omega
      have e6 : (k : Int).fdiv (2 ^ min (Int.toNat 7) IntKind.u64.bits) = (r : Int) := by
        rw [show (2 : Int) ^ min (Int.toNat 7) IntKind.u64.bits = 128 from rfl, Int.fdiv_eq_ediv_of_nonneg _ (by omega)]; exact e5
      rw [hr] at HL3
      have hrk : r < k := by omega
      clear hr
      go_wp2
      go_roundw
      case rel => exact ⟨r, _, by first | rfl | go_num | (simp; done) | omega, by omega, HL3.out, HO3.out, hz, HB3.out, HN3.out⟩
      case measure => simp [intOf]; omega
/-- The point ahead of point i; the bytes of the step to it. -/
def ahX (X : Nat → Int) (i : Nat) : Int := if i = 0 then 0 else X (i - 1)
def stepL (X Y : Nat → Int) (i : Nat) : List Int := putI (foldI (X i - ahX X i)).toNat ++ putI (foldI (Y i - ahX Y i)).toNat
def ptsL (X Y : Nat → Int) : Nat → List Int
  | 0 => []
  | k + 1 => ptsL X Y k ++ stepL X Y k
/-- All the coordinates are small. -/
def Near (n : Nat) (X Y : Nat → Int) : Prop := ∀ i, i < n → (0 ≤ X i ∧ X i ≤ 1024) ∧ (0 ≤ Y i ∧ Y i ≤ 1024)
theorem ahX_bd {n : Nat} {X : Nat → Int} (h : ∀ i, i < n → 0 ≤ X i ∧ X i ≤ 1024) (i : Nat) (hi : i ≤ n) : 0 ≤ ahX X i ∧ ahX X i ≤ 1024 := by
  unfold ahX
  split
  · omega
  · exact h _ (by omega)
theorem putI_len2 (n : Nat) (h : n ≤ 2048) : (putI n).length ≤ 2 := putI_len 1 n (by omega)
theorem step_num {x a : Int} (hx : 0 ≤ x ∧ x ≤ 1024) (ha : 0 ≤ a ∧ a ≤ 1024) : ∃ m : Nat, foldI (x - a) = (m : Int) ∧ m ≤ 2048 := by
  have := foldI_bd (n := x - a) (B := 1024) (by omega) (by omega)
  exact ⟨(foldI (x - a)).toNat, by omega, by omega⟩
theorem stepL_len {n : Nat} {X Y : Nat → Int} (h : Near n X Y) (i : Nat) (hi : i < n) : (stepL X Y i).length ≤ 4 := by
  obtain ⟨m, hm, hm'⟩ := step_num (h i hi).1 (ahX_bd (fun i hi => (h i hi).1) i (by omega))
  obtain ⟨k, hk, hk'⟩ := step_num (h i hi).2 (ahX_bd (fun i hi => (h i hi).2) i (by omega))
  have h1 := putI_len2 m hm'
  have h2 := putI_len2 k hk'
  unfold stepL
  rw [hm, hk]
  simp
  omega
theorem ptsL_len {n : Nat} {X Y : Nat → Int} (h : Near n X Y) : ∀ k, k ≤ n → (ptsL X Y k).length ≤ 4 * k
  | 0, _ => by simp [ptsL]
  | k + 1, hk => by
    have h1 := ptsL_len h k (by omega)
    have h2 := stepL_len h k (by omega)
    simp [ptsL]
    omega
theorem ahX_succ (X : Nat → Int) (k : Nat) : ahX X (k + 1) = X k := by simp [ahX]

set_option maxHeartbeats 4000000 in
theorem putPoints_any (base : Nat) (v : Value) (l : List Int) (b off n cap : Nat) (X Y : Nat → Int) (w : World) (hO : RowB base w v l) (hbase : base ≤ w.heap.size) (hp : PtsAt w b off n X Y) (hbl : b < base) (hn : n ≤ 12) (hin : Near n X Y) (hl : l.length ≤ 1900) :
    Calls Tryz.prog 103 #[v, .slice (some ⟨b, off, none⟩) n cap] w fun e w' => ∃ v', e = .returned v' ∧ RowB base w' v' (l ++ (putI n ++ ptsL X Y n)) ∧ Below base w w' ∧ NB w w' := by
  have HO : Hid (RowB base w v l) := hO
  have HP : Hid (PtsAt w b off n X Y) := hp
  have HIN : Hid (Near n X Y) := hin
  have e1 : IntKind.u64.wrap (n : Int) = (n : Int) := by rw [IntKind.wrap_u64]; omega
  clear hO hp hin
  go_enter Tryz.func103, Tryz.ntmps103
  go_wp2_with fail
  refine (putNumber_nb base v l n w HO.out hbase (by omega) (by omega)).mono ?_
  rintro e w1 ⟨v1, rfl, hO1, hB1, hN1⟩
  have hb1 : base ≤ w1.heap.size := Nat.le_trans hbase hB1.size
  have hs1 := hB1.size
  go_wp2_with fail
  generalize hW : (w1.alloc _ : World) = W
  have HO1 : Hid (RowB base W v1 (l ++ putI n)) := by subst hW; exact hO1.alloc _
  have hBa : Below w1.heap.size w1 W := by subst hW; (repeat (first | exact Below.refl _ _ | assumption | refine Below.drew ?_ | refine bl_alloc ?_ _ | refine bl_then ?_ (by assumption) | refine Below.setCell ?_ (by first | omega | (simp; done) | (simp; omega)) _ | refine bl_store ?_ ?_ _ _))
  have HA : Hid (PtB W w1.heap.size (ahX X 0) (ahX Y 0)) := by subst hW; exact PtB.new _ _ _
  have HB : Hid (Below base w W) := hB1.trans (hBa.mono hb1)
  have HN : Hid (NB w W) := hN1.trans (NB.of_below hBa)
  clear hW hO1 hB1 hN1
  have hsW := hBa.size
  clear hBa HO
  obtain ⟨r, hr⟩ : ∃ r, w1.heap.size = r := ⟨_, rfl⟩
  rw [hr] at HA hs1 hb1
  try rw [hr]
  have hr' : w.heap.size ≤ r := hs1
  clear hr hs1 hsW
  go_loopw [0, 16] (fun u i wr => ∃ k : Nat, k ≤ n ∧ i = .int .i64 (k : Int) ∧ RowB base wr u (l ++ (putI n ++ ptsL X Y k)) ∧ PtB wr r (ahX X k) (ahX Y k) ∧ Below base w wr ∧ NB w wr) (fun _ i _ => n - (intOf i).toNat)
  case atStart => exact ⟨0, by omega, rfl, by simpa [ptsL] using HO1.out, HA.out, HB.out, HN.out⟩
  case round =>
    obtain ⟨k, hk, rfl, hO, hA, hB, hN⟩ := hrel
    have HOr : Hid (RowB base wr u0 (l ++ (putI n ++ ptsL X Y k))) := hO
    have HAr : Hid (PtB wr r (ahX X k) (ahX Y k)) := hA
    have HBr : Hid (Below base w wr) := hB
    have HNr : Hid (NB w wr) := hN
    have hbr : base ≤ wr.heap.size := Nat.le_trans hbase hB.size
    clear hO hA hB hN HO1 HA HB HN
    by_cases hlt : k < n
    · obtain ⟨hx, hy⟩ := (HP.out.below HBr.out hbl) k hlt
      have hbw : b < wr.heap.size := by omega
      have hi' : (k : Int) < (n : Int) := by omega
      obtain ⟨hX, hY⟩ := HIN.out k hlt
      have hX' := ahX_bd (fun i hi => (HIN.out i hi).1) k (by omega)
      have hY' := ahX_bd (fun i hi => (HIN.out i hi).2) k (by omega)
      obtain ⟨m, hm, hm'⟩ := step_num hX hX'
      obtain ⟨q, hq, hq'⟩ := step_num hY hY'
      have HST : Hid (ptsL X Y (k + 1) = ptsL X Y k ++ (putI m ++ putI q)) := by show _ = _; simp [ptsL, stepL, hm, hq]
      have hlen := ptsL_len HIN.out k (by omega)
      have hln := putI_len2 n (by omega)
      have hlm := putI_len2 m hm'
      have HM : Hid (foldI (X k - ahX X k) = (m : Int)) := hm
      have HQ : Hid (foldI (Y k - ahX Y k) = (q : Int)) := hq
      clear hm hq
      obtain ⟨ax, hax⟩ : ∃ z, ahX X k = z := ⟨_, rfl⟩
      obtain ⟨ay, hay⟩ : ∃ z, ahX Y k = z := ⟨_, rfl⟩
      rw [hax] at hX' HM HAr
      rw [hay] at hY' HQ HAr
      clear hax hay
      obtain ⟨q0, q1, _, _⟩ := HAr.out.cells
      have hrl := HAr.out.lt
      go_wp2_with fail
      generalize hV : (wr.alloc _ : World) = V
      have hbV : Below wr.heap.size wr V := by subst hV; (repeat (first | exact Below.refl _ _ | assumption | refine Below.drew ?_ | refine bl_alloc ?_ _ | refine bl_then ?_ (by assumption) | refine Below.setCell ?_ (by first | omega | (simp; done) | (simp; omega)) _ | refine bl_store ?_ ?_ _ _))
      have HPV : Hid (PtB V wr.heap.size (X k) (Y k)) := by subst hV; exact PtB.new _ _ _
      have HAV : Hid (PtB V r (ax) (ay)) := HAr.out.nb (NB.of_below hbV)
      have HOV : Hid (RowB base V u0 (l ++ (putI n ++ ptsL X Y k))) := HOr.out.below hbV
      have HBV : Hid (Below base w V) := HBr.out.trans (hbV.mono hbr)
      have HNV : Hid (NB w V) := HNr.out.trans (NB.of_below hbV)
      have hsV : base ≤ V.heap.size := by have := hbV.size; omega
      obtain ⟨rp, hrp⟩ : ∃ r, wr.heap.size = r := ⟨_, rfl⟩
      rw [hrp] at HPV
      rw [hrp]
      have hwrp : w.heap.size ≤ rp := by have := HBr.out.size; omega
      have hne : r ≠ rp := by have := HAr.out.lt; omega
      clear hV hbV HOr HAr HBr HNr hx hy hrp q0 q1
      obtain ⟨a0, a1, f0, f1⟩ := HAV.out.cells
      obtain ⟨p0, p1, _, _⟩ := HPV.out.cells
      refine (impl_fold_any (X k - ax) _ (by omega) (by omega)).mono ?_
      rintro e w2 ⟨rfl, rfl⟩
      rw [HM.out]
      go_wp2_with fail
      refine (putNumber_nb base u0 _ m V HOV.out hsV (by omega) (by simp; omega)).mono ?_
      rintro e w3 ⟨v3, rfl, hO3, hB3, hN3⟩
      have HA3 : Hid (PtB w3 r (ax) (ay)) := HAV.out.nb hN3
      have HP3 : Hid (PtB w3 rp (X k) (Y k)) := HPV.out.nb hN3
      have HO3 : Hid (RowB base w3 v3 (l ++ (putI n ++ ptsL X Y k) ++ putI m)) := hO3
      have HB3 : Hid (Below base w w3) := HBV.out.trans hB3
      have HN3 : Hid (NB w w3) := HNV.out.trans hN3
      have hs3 : base ≤ w3.heap.size := by have := hB3.size; omega
      clear hO3 hB3 hN3 HOV HAV HBV HNV HPV a0 a1 f0 f1 p0 p1
      obtain ⟨a0, a1, f0, f1⟩ := HA3.out.cells
      obtain ⟨p0, p1, _, _⟩ := HP3.out.cells
      go_wp2_with fail
      refine (impl_fold_any (Y k - ay) _ (by omega) (by omega)).mono ?_
      rintro e w4 ⟨rfl, rfl⟩
      rw [HQ.out]
      go_wp2_with fail
      refine (putNumber_nb base v3 _ q w3 HO3.out hs3 (by omega) (by simp; omega)).mono ?_
      rintro e w5 ⟨v5, rfl, hO5, hB5, hN5⟩
      have HA5 : Hid (PtB w5 r (ax) (ay)) := HA3.out.nb hN5
      have HP5 : Hid (PtB w5 rp (X k) (Y k)) := HP3.out.nb hN5
      have HO5 : Hid (RowB base w5 v5 (l ++ (putI n ++ ptsL X Y (k + 1)))) := by
        show RowB _ _ _ _
        rw [HST.out]
        simpa using hO5
      have HB5 : Hid (Below base w w5) := HB3.out.trans hB5
      have HN5 : Hid (NB w w5) := HN3.out.trans hN5
      clear hO5 hB5 hN5 HO3 HA3 HB3 HN3 HP3 a0 a1 f0 f1 p0 p1
      obtain ⟨a0, a1, f0, f1⟩ := HA5.out.cells
      obtain ⟨p0, p1, _, _⟩ := HP5.out.cells
      go_wp2
      go_roundw
      case rel =>
        refine ⟨k + 1, by omega, by first | rfl | go_num | (simp; done) | omega, ?_, ?_, ?_, ?_⟩
        · exact HO5.out.set2 HA5.out
        · rw [ahX_succ, ahX_succ]; exact HA5.out.set
        · exact (HB5.out.setCell (p := ⟨r, 0, none⟩) (by show base ≤ r; omega) _).setCell (p := ⟨r, 1, none⟩) (by show base ≤ r; omega) _
        · exact (HN5.out.set hr' _).set hr' _
      case measure => simp [intOf]; omega
    · have hkn : k = n := by omega
      subst hkn
      have hi' : ¬ (k : Int) < (k : Int) := by omega
      go_wp2
      go_ret
      exact ⟨_, rfl, HOr.out, HBr.out, HNr.out⟩
end Go.Proofs.YthadmnhpjklmiaaGreat
/- A feature is put behind bytes: the program's way. -/

namespace Go.Proofs.YthadmnhpjklmiaaGreat
open Go.RowKit
set_option linter.unusedSimpArgs false
set_option linter.unusedVariables false
set_option maxRecDepth 100000

/-- Numbers one behind the other. -/
def hd (N : List Nat) : List Int := N.flatMap putI
def labL (s : ByteArray) : List Int := s.data.toList.map fun b => (b.toNat : Int)
theorem labL_cells (s : ByteArray) : cellsB (labL s) = Lib.strCells s := by simp [cellsB, labL, Lib.strCells, Function.comp_def]
theorem labL_len (s : ByteArray) : (labL s).length = s.size := by simp [labL]
/-- The bytes of a feature. -/
def featL (id la ki wi pr : Nat) (lab : ByteArray) (n : Nat) (X Y : Nat → Int) : List Int := hd [id, la, ki, wi, pr, lab.size] ++ (labL lab ++ (putI n ++ ptsL X Y n))
theorem hd_len : ∀ (N : List Nat), (∀ x ∈ N, x ≤ 1099511627776) → (hd N).length ≤ 6 * N.length
  | [], _ => by simp [hd]
  | x :: N, h => by
    have h1 := putI_len6 x (h x (by simp))
    have h2 := hd_len N (fun y hy => h y (by simp [hy]))
    simp [hd] at h2 ⊢
    omega
theorem featL_len {id la ki wi pr : Nat} {lab : ByteArray} {n : Nat} {X Y : Nat → Int} (hn : n ≤ 12) (hin : Near n X Y) (hs : lab.size ≤ 6) (h1 : id ≤ 999) (h2 : la ≤ 999) (h3 : ki ≤ 999) (h4 : wi ≤ 999) (h5 : pr ≤ 999) : (featL id la ki wi pr lab n X Y).length ≤ 100 := by
  have e1 := hd_len [id, la, ki, wi, pr, lab.size] (by intro x hx; simp at hx; omega)
  have e2 := labL_len lab
  have e3 := putI_len2 n (by omega)
  have e4 := ptsL_len hin n (Nat.le_refl _)
  simp at e1
  simp [featL]
  omega
theorem OutAt.nb {w w' : World} {O : Nat} {id la ki wi pr : Int} {v : Value} {lab : ByteArray} (h : OutAt w O id la ki wi v lab pr) (hn : NB w w') : OutAt w' O id la ki wi v lab pr := hn _ _ _ _ h (by decide)
theorem OutAt.fresh (w : World) (id la ki wi : Int) (v : Value) (lab : ByteArray) (pr : Int) : OutAt (w.alloc (.cells #[.int .i64 id, .int .i64 la, .int .i64 ki, .int .i64 wi, v, .string lab, .int .i64 pr] 55)) w.heap.size id la ki wi v lab pr := by simp [OutAt, World.alloc, -World.alloc_eq]

set_option maxHeartbeats 8000000 in
theorem putFeature_any (base : Nat) (v : Value) (l : List Int) (id la ki wi pr : Nat) (lab : ByteArray) (b off n cap : Nat) (X Y : Nat → Int) (w : World) (hO : RowB base w v l) (hbase : base ≤ w.heap.size) (hp : PtsAt w b off n X Y) (hbl : b < base) (hn : n ≤ 12) (hin : Near n X Y) (hs : lab.size ≤ 6)
    (h1 : id ≤ 999) (h2 : la ≤ 999) (h3 : ki ≤ 999) (h4 : wi ≤ 999) (h5 : pr ≤ 999) (hl : l.length ≤ 1800) :
    Calls Tryz.prog 68 #[v, .agg #[.int .i64 (id : Int), .int .i64 (la : Int), .int .i64 (ki : Int), .int .i64 (wi : Int), .slice (some ⟨b, off, none⟩) n cap, .string lab, .int .i64 (pr : Int)]] w fun e w' => ∃ v', e = .returned v' ∧ RowB base w' v' (l ++ featL id la ki wi pr lab n X Y) ∧ Below base w w' ∧ NB w w' := by
  obtain ⟨i0, hi, hz0, hz1, hz2⟩ := info_parts info_u8
  have HO : Hid (RowB base w v l) := hO
  have HP : Hid (PtsAt w b off n X Y) := hp
  have HIN : Hid (Near n X Y) := hin
  have e1 : IntKind.u64.wrap (id : Int) = (id : Int) := by rw [IntKind.wrap_u64]; omega
  have e2 : IntKind.u64.wrap (la : Int) = (la : Int) := by rw [IntKind.wrap_u64]; omega
  have e3 : IntKind.u64.wrap (ki : Int) = (ki : Int) := by rw [IntKind.wrap_u64]; omega
  have e4 : IntKind.u64.wrap (wi : Int) = (wi : Int) := by rw [IntKind.wrap_u64]; omega
  have e5 : IntKind.u64.wrap (pr : Int) = (pr : Int) := by rw [IntKind.wrap_u64]; omega
  have e6 : IntKind.u64.wrap (lab.size : Int) = (lab.size : Int) := by rw [IntKind.wrap_u64]; omega
  clear hO hp hin
  go_enter Tryz.func68, Tryz.ntmps68
  go_wp2_with fail
  generalize hW : (w.alloc _ : World) = W
  have hBa : Below w.heap.size w W := by subst hW; (repeat (first | exact Below.refl _ _ | assumption | refine Below.drew ?_ | refine bl_alloc ?_ _ | refine bl_then ?_ (by assumption) | refine Below.setCell ?_ (by first | omega | (simp; done) | (simp; omega)) _ | refine bl_store ?_ ?_ _ _))
  have HF : Hid (OutAt W w.heap.size (id : Int) la ki wi (.slice (some ⟨b, off, none⟩) n cap) lab pr) := by subst hW; exact OutAt.fresh _ _ _ _ _ _ _ _
  have HO1 : Hid (RowB base W v l) := HO.out.below hBa
  have HB : Hid (Below base w W) := hBa.mono hbase
  have HN : Hid (NB w W) := NB.of_below hBa
  obtain ⟨r, hr⟩ : ∃ r, w.heap.size = r := ⟨_, rfl⟩
  rw [hr] at HF hbase
  try rw [hr]
  clear hW HO hBa
  obtain ⟨N, hNN⟩ : ∃ N : List Nat, N = [id, la, ki, wi, pr, lab.size] := ⟨_, rfl⟩
  have HNN : Hid (N = [id, la, ki, wi, pr, lab.size]) := hNN
  clear hNN
  go_loopw [0, 21] (fun u i wr => ∃ (k : Nat) (l' : List Int), k ≤ 6 ∧ i = .int .i64 (k : Int) ∧ l' = l ++ hd (N.take k) ∧ l'.length ≤ 1800 + 6 * k ∧ RowB base wr u l' ∧ OutAt wr r (id : Int) la ki wi (.slice (some ⟨b, off, none⟩) n cap) lab pr ∧ Below base w wr ∧ NB w wr) (fun _ i _ => 6 - (intOf i).toNat)
  case atStart => exact ⟨0, l, by omega, rfl, by simp [hd], by omega, HO1.out, HF.out, HB.out, HN.out⟩
  case round =>
    obtain ⟨k, l', hk, rfl, hl1, hl2, hO, hF, hB, hN⟩ := hrel
    have HL : Hid (l' = l ++ hd (N.take k)) := hl1
    have HOr : Hid (RowB base wr u0 l') := hO
    have HFr : Hid (OutAt wr r (id : Int) la ki wi (.slice (some ⟨b, off, none⟩) n cap) lab pr) := hF
    have HBr : Hid (Below base w wr) := hB
    have HNr : Hid (NB w wr) := hN
    have hbr : base ≤ wr.heap.size := by have := hB.size; omega
    clear hO hF hB hN HO1 HF HB HN hl1
    by_cases hlt : k < 6
    · have hi' : (k : Int) < 6 := by omega
      obtain ⟨x, hat, hx2, hx3⟩ : ∃ x : Nat, (∀ w, (Instr.index 144 (Value.agg #[.int .i64 (id : Int), .int .i64 (la : Int), .int .i64 (ki : Int), .int .i64 (wi : Int), .int .i64 (pr : Int), .int .i64 (lab.size : Int)]) (.int .i64 (k : Int))).run Tryz.prog w = .ok (.int .i64 (x : Int)) w) ∧ x ≤ 999 ∧ hd (N.take (k + 1)) = hd (N.take k) ++ putI x := by
        rw [HNN.out]
        rcases (by omega : k = 0 ∨ k = 1 ∨ k = 2 ∨ k = 3 ∨ k = 4 ∨ k = 5) with rfl | rfl | rfl | rfl | rfl | rfl
        · exact ⟨id, fun _ => by kernel_rfl, by omega, by simp [hd]⟩
        · exact ⟨la, fun _ => by kernel_rfl, by omega, by simp [hd]⟩
        · exact ⟨ki, fun _ => by kernel_rfl, by omega, by simp [hd]⟩
        · exact ⟨wi, fun _ => by kernel_rfl, by omega, by simp [hd]⟩
        · exact ⟨pr, fun _ => by kernel_rfl, by omega, by simp [hd]⟩
        · exact ⟨lab.size, fun _ => by kernel_rfl, by omega, by simp [hd]⟩
      have HX : Hid (hd (N.take (k + 1)) = hd (N.take k) ++ putI x) := hx3
      have h6 := putI_len6 x (by omega)
      have ex : IntKind.u64.wrap (x : Int) = (x : Int) := by rw [IntKind.wrap_u64]; omega
      clear hx3
      go_wp2_with fail
      refine (putNumber_nb base u0 l' x wr HOr.out hbr (by omega) (by omega)).mono ?_
      rintro e w3 ⟨v3, rfl, hO3, hB3, hN3⟩
      have HO3 : Hid (RowB base w3 v3 (l' ++ putI x)) := hO3
      have HF3 : Hid (OutAt w3 r (id : Int) la ki wi (.slice (some ⟨b, off, none⟩) n cap) lab pr) := HFr.out.nb hN3
      have HB3 : Hid (Below base w w3) := HBr.out.trans hB3
      have HN3 : Hid (NB w w3) := HNr.out.trans hN3
      clear hO3 hB3 hN3 HOr HFr HBr HNr hat
      go_wp2
      go_roundw
      case rel => exact ⟨k + 1, l' ++ putI x, by omega, by first | rfl | go_num | (simp; done) | omega, by rw [HX.out, HL.out]; simp, by simp; omega, HO3.out, HF3.out, HB3.out, HN3.out⟩
      case measure => simp [intOf]; omega
    · have hk6 : k = 6 := by omega
      subst hk6
      have HL' : Hid (l' = l ++ hd [id, la, ki, wi, pr, lab.size]) := by show _ = _; rw [HL.out, HNN.out]; rfl
      obtain ⟨⟨c0, c1, c2, c3, c4, c5, c6⟩, _⟩ := HFr.out.cells
      have hrl := HFr.out.lt
      go_wp2_with (first
        | (at_builtin; go_must (refine Lib.wpList_append_own_string _ rfl _ _ 40 9 rfl base 5 i0 Tryz.underlying40 Tryz.underlying9 hi hz0 hz1 hz2 _ l'.length (cellsB l') rfl HOr.out lab rfl ?c3 ?c4 ?c5 ?_)))
      case c3 => unfold maxLen; omega
      case c4 => omega
      case c5 => omega
      intro v3 w3 hown hgrow hnil
      have HO3 : Hid (RowB base w3 v3 (l' ++ labL lab)) := by
        show RowB _ _ _ _
        unfold RowB
        rw [cellsB_add, labL_cells, List.length_append, labL_len]
        exact hown
      have hBg : Below base wr w3 := (Below.refl _ _).grown hgrow hbr (fun k hk => (HOr.out.lt k hk).1)
      have hNg : NB wr w3 := NB.of_grown HOr.out hgrow
      have HF3 : Hid (OutAt w3 r (id : Int) la ki wi (.slice (some ⟨b, off, none⟩) n cap) lab pr) := HFr.out.nb hNg
      have HB3 : Hid (Below base w w3) := HBr.out.trans hBg
      have HN3 : Hid (NB w w3) := HNr.out.trans hNg
      have hs3 : base ≤ w3.heap.size := by have := hBg.size; omega
      clear hown hgrow hnil hBg hNg HOr HFr HBr HNr c0 c1 c2 c3 c4 c5 c6
      obtain ⟨⟨c0, c1, c2, c3, c4, c5, c6⟩, _⟩ := HF3.out.cells
      have hrl3 := HF3.out.lt
      have hll : (l' ++ labL lab).length ≤ 1900 := by rw [List.length_append, labL_len]; omega
      go_wp2_with fail
      refine (putPoints_any base v3 (l' ++ labL lab) b off n cap X Y w3 HO3.out hs3 (HP.out.below HB3.out hbl) hbl hn HIN.out hll).mono ?_
      rintro e w4 ⟨v4, rfl, hO4, hB4, hN4⟩
      have HO4 : Hid (RowB base w4 v4 (l ++ featL id la ki wi pr lab n X Y)) := by
        show RowB _ _ _ _
        rw [HL'.out] at hO4
        simpa [featL] using hO4
      have HB4 : Hid (Below base w w4) := HB3.out.trans hB4
      have HN4 : Hid (NB w w4) := HN3.out.trans hN4
      clear hO4 hB4 hN4 HO3 HF3 HB3 HN3 c0 c1 c2 c3 c4 c5 c6
      go_wp2
      go_ret
      exact ⟨_, rfl, HO4.out, HB4.out, HN4.out⟩
end Go.Proofs.YthadmnhpjklmiaaGreat
/- A feature told as bytes: the program's way. -/

namespace Go.Proofs.YthadmnhpjklmiaaGreat
open Go.RowKit
set_option linter.unusedSimpArgs false
set_option linter.unusedVariables false
set_option maxRecDepth 100000

/-- The bytes of PackFeature; its code is the fault. -/
def pfL (id la ki wi : Int) (n : Nat) (X Y : Nat → Int) (lab : ByteArray) (pr : Int) : List Int :=
  if featC id la ki wi n X Y lab pr = 0 then featL id.toNat la.toNat ki.toNat wi.toNat pr.toNat lab n X Y else []
/-- What a feature without a fault has. -/
theorem feat_ok {id la ki wi : Int} {n : Nat} {X Y : Nat → Int} {lab : ByteArray} {pr : Int} (h : featC id la ki wi n X Y lab pr = 0) :
    ∃ i l k v p : Nat, id = (i : Int) ∧ la = (l : Int) ∧ ki = (k : Int) ∧ wi = (v : Int) ∧ pr = (p : Int) ∧ i ≤ 999 ∧ l ≤ 999 ∧ k ≤ 999 ∧ v ≤ 999 ∧ p ≤ 999 ∧ 0 < n ∧ n ≤ 12 ∧ Near n X Y ∧ lab.size ≤ 6 := by
  unfold featC at h
  split at h
  · rename_i h1
    split at h
    · rename_i h2
      split at h
      · rename_i h3
        split at h
        · rename_i h4
          simp [rngB, inB] at h1
          simp [ptsIn, inW, inB] at h3
          simp [labB] at h4
          have hn : 0 < n ∧ n ≤ 12 := by
            unfold sizeB at h2
            split at h2
            · simp at h2; omega
            · split at h2 <;> (simp [inB] at h2; omega)
          refine ⟨id.toNat, la.toNat, ki.toNat, wi.toNat, pr.toNat, by omega, by omega, by omega, by omega, by omega, by omega, by omega, by omega, by omega, by omega, hn.1, hn.2, fun i hi => ?_, h4.1⟩
          have := h3 i hi
          omega
        · omega
      · omega
    · omega
  · omega

end Go.Proofs.YthadmnhpjklmiaaGreat
