/- Answers with a code and a list of boxes: they are compared, marked, and the marks are found again. -/
import Derived.Test.YtdohlnnbibnnbaaGreatVPlaceLabels37
import Derived.Test.YtdohlnnbibnnbaaGreatVPlaceLabels9
import Derived.Test.YtdohlnnbibnnbaaGreatVPlaceLabels13
namespace Go.Proofs.YtdohlnnbibnnbaaGreat
open Go.RowKit
set_option linter.unusedSimpArgs false
set_option linter.unusedVariables false
set_option maxRecDepth 100000

/-- The marks from k0 on. -/
def mkP (k0 : Nat) (i : Nat) : Plc := ⟨((k0 + 5 * i : Nat) : Int), ((k0 + 5 * i + 1 : Nat) : Int), ((k0 + 5 * i + 2 : Nat) : Int), ((k0 + 5 * i + 3 : Nat) : Int), ((k0 + 5 * i + 4 : Nat) : Int)⟩
set_option maxHeartbeats 2000000 in
theorem markPlacedS_mk (g n cap k0 : Nat) (w : World) (hT : There w g (n * 5)) (hn : n ≤ 1048576) (hk0 : k0 ≤ 1125899906842624) :
    Calls Tryz.prog 48 #[.slice (some ⟨g, 0, none⟩) n cap, .int .i64 (k0 : Int)] w fun e w' => e = .returned (.int .i64 ((k0 + 5 * n : Nat) : Int)) ∧ w.grownBy w' (some g) ∧ There w' g (n * 5) ∧ LbAt w' g 0 n (mkP k0) := by
  have HT0 : Hid (There w g (n * 5)) := hT
  clear hT
  go_enter Tryz.func48, Tryz.ntmps48
  go_wp2_with fail
  go_loopw [1, 5] (fun kk i wr => ∃ j K : Nat, j ≤ n ∧ Hid (K = k0 + 5 * j) ∧ kk = .int .i64 (K : Int) ∧ i = .int .i64 (j : Int) ∧ w.grownBy wr (some g) ∧ There wr g (n * 5) ∧ LbAt wr g 0 j (mkP k0)) (fun _ i _ => n - (intOf i).toNat)
  case atStart => exact ⟨0, k0, by omega, rfl, rfl, rfl, grown_refl _ _, HT0.out, fun i hi => by omega⟩
  case round =>
    obtain ⟨j, K, hj, HK, rfl, rfl, hG, hT', hP⟩ := hrel
    by_cases hlt : j < n
    · have hKb : K ≤ 1125899913134080 := by have := HK.out; omega
      have t0 := hT'.cell (j * 5 + 0) (by omega)
      have t1 := hT'.cell (j * 5 + 1) (by omega)
      have t2 := hT'.cell (j * 5 + 2) (by omega)
      have t3 := hT'.cell (j * 5 + 3) (by omega)
      have t4 := hT'.cell (j * 5 + 4) (by omega)
      have y0 := (hT' (j * 5 + 0) (by omega)).2
      have y1 := (hT' (j * 5 + 1) (by omega)).2
      have y2 := (hT' (j * 5 + 2) (by omega)).2
      have y3 := (hT' (j * 5 + 3) (by omega)).2
      have y4 := (hT' (j * 5 + 4) (by omega)).2
      simp only [Nat.add_zero] at t0 y0
      have HG : Hid (w.grownBy wr (some g)) := hG
      have HT : Hid (There wr g (n * 5)) := hT'
      have HP : Hid (LbAt wr g 0 j (mkP k0)) := hP
      clear hT' hG hP
      have hi : (j : Int) < (n : Int) := by omega
      have hi0 : (0 : Int) ≤ (j : Int) := by omega
      go_wp2
      go_roundw
      case rel =>
        have hfs := HP.out.lay HT.out hlt
        have he : mkP k0 j = ⟨(K : Int), (K : Int) + 1, (K : Int) + 1 + 1, (K : Int) + 1 + 1 + 1, (K : Int) + 1 + 1 + 1 + 1⟩ := by
          have := HK.out
          unfold mkP
          congr 1 <;> omega
        rw [he] at hfs
        exact ⟨j + 1, K + 5, by omega, by have := HK.out; show _ = _; omega, by go_num, by go_num, grown_set (grown_set (grown_set (grown_set (grown_set HG.out _ _) _ _) _ _) _ _) _ _, ((((HT.out.setP _ _).setP _ _).setP _ _).setP _ _).setP _ _, hfs⟩
      case measure => simp [intOf]; omega
    · go_wp2
      go_ret
      have hjn : j = n := by omega
      subst hjn
      exact ⟨ret_int (by have := HK.out; omega), hG, hT', hP⟩
theorem markPlacedS_none (a : Option Addr) (cap : Nat) (k : Int) (w : World) : Calls Tryz.prog 48 #[.slice a 0 cap, .int .i64 k] w fun e w' => e = .returned (.int .i64 k) ∧ w = w' := by
  go_enter Tryz.func48, Tryz.ntmps48
  go_wp2_with fail
  go_loopw [1, 5] (fun kk i wr => kk = .int .i64 k ∧ i = .int .i64 0 ∧ w = wr) (fun _ _ _ => 0)
  case atStart => exact ⟨rfl, rfl, rfl⟩
  case round =>
    obtain ⟨rfl, rfl, rfl⟩ := hrel
    go_wp2
    go_ret
    exact ⟨rfl, rfl⟩
set_option maxHeartbeats 2000000 in
theorem heldPlacedS_any (a : Option Addr) (n cap k0 : Nat) (w : World) (hp : IsLb w a n (mkP k0)) (hmax : n ≤ 1048576) (hk0 : k0 ≤ 1125899906842624) :
    Calls Tryz.prog 49 #[.slice a n cap, .int .i64 (k0 : Int)] w fun e w' => e = .returned (.int .i64 ((k0 + 5 * n : Nat) : Int)) ∧ Below w.heap.size w w' := by
  have HP : Hid (IsLb w a n (mkP k0)) := hp
  clear hp
  go_enter Tryz.func49, Tryz.ntmps49
  go_wp2_with fail
  go_loopw [1, 5] (fun kk i wr => ∃ j K : Nat, j ≤ n ∧ Hid (K = k0 + 5 * j) ∧ kk = .int .i64 (K : Int) ∧ i = .int .i64 (j : Int) ∧ Below w.heap.size w wr) (fun _ i _ => n - (intOf i).toNat)
  case atStart => exact ⟨0, k0, by omega, rfl, rfl, rfl, Below.refl _ _⟩
  case round =>
    obtain ⟨j, K, hj, HK, rfl, rfl, hB⟩ := hrel
    by_cases hlt : j < n
    · rcases HP.out with h0 | ⟨b, off, rfl, hbl, hpt⟩
      · omega
      have hKb : K ≤ 1125899913134080 := by have := HK.out; omega
      have he : mkP k0 j = ⟨(K : Int), (K : Int) + 1, (K : Int) + 1 + 1, (K : Int) + 1 + 1 + 1, (K : Int) + 1 + 1 + 1 + 1⟩ := by
        have := HK.out
        unfold mkP
        congr 1 <;> omega
      have hat := (hpt.below hB hbl) j hlt
      rw [he] at hat
      obtain ⟨t0, t1, t2, t3, t4⟩ := hat
      dsimp only at t0 t1 t2 t3 t4
      have HB : Hid (Below w.heap.size w wr) := hB
      clear hB hpt he
      have hi : (j : Int) < (n : Int) := by omega
      have hi0 : (0 : Int) ≤ (j : Int) := by omega
      go_wp2
      go_roundw
      case rel => exact ⟨j + 1, K + 5, by omega, by have := HK.out; show _ = _; omega, by go_num, by go_num, HB.out⟩
      case measure => simp [intOf]; omega
    · go_wp2
      go_ret
      have hjn : j = n := by omega
      subst hjn
      exact ⟨ret_int (by have := HK.out; omega), hB⟩
/-- v is a list of n boxes in a block from base on. -/
def OwnP (w : World) (base : Nat) (v : Value) (n : Nat) (E : Nat → Plc) : Prop :=
  ∃ a cap, v = .slice a n cap ∧ n ≤ cap ∧ (n = 0 ∨ ∃ b, a = some ⟨b, 0, none⟩ ∧ base ≤ b ∧ b < w.heap.size ∧ LbAt w b 0 n E ∧ There w b (n * 5))
theorem OwnP.below {w w' : World} {base : Nat} {v : Value} {n : Nat} {E : Nat → Plc} (h : OwnP w base v n E) (hb : Below w.heap.size w w') : OwnP w' base v n E := by
  obtain ⟨a, cap, hv, hc, h0 | ⟨b, ha, hbb, hl, hp, ht⟩⟩ := h
  · exact ⟨a, cap, hv, hc, .inl h0⟩
  · exact ⟨a, cap, hv, hc, .inr ⟨b, ha, hbb, Nat.lt_of_lt_of_le hl hb.size, hp.below hb hl, ht.below hb⟩⟩
theorem OwnP.pts {w : World} {base : Nat} {v : Value} {n : Nat} {E : Nat → Plc} (h : OwnP w base v n E) : ∃ a cap, v = .slice a n cap ∧ n ≤ cap ∧ IsLb w a n E := by
  obtain ⟨a, cap, hv, hc, h0 | ⟨b, ha, hb, hl, hp, ht⟩⟩ := h
  · exact ⟨a, cap, hv, hc, .inl h0⟩
  · exact ⟨a, cap, hv, hc, .inr ⟨b, 0, ha, hl, hp⟩⟩
theorem OwnP.is {w : World} {base : Nat} {a : Option Addr} {n cap : Nat} {E : Nat → Plc} (h : OwnP w base (.slice a n cap) n E) : IsLb w a n E := by
  obtain ⟨a', cap', hv, hc, hi⟩ := h.pts
  injection hv with h1 h2 h3
  subst h1
  exact hi
theorem OwnP.mid {w w' : World} {base lo hi : Nat} {v : Value} {n : Nat} {E : Nat → Plc} (h : OwnP w base v n E) (hM : MidB lo hi w w') (hh : hi ≤ base) : OwnP w' base v n E := by
  obtain ⟨a, cap, hv, hc, h0 | ⟨b, ha, hbb, hl, hp, ht⟩⟩ := h
  · exact ⟨a, cap, hv, hc, .inl h0⟩
  · refine ⟨a, cap, hv, hc, .inr ⟨b, ha, hbb, Nat.lt_of_lt_of_le hl hM.size, fun i hi => ?_, hM.there ht (.inr (by omega))⟩⟩
    obtain ⟨h0, h1, h2, h3, h4⟩ := hp i hi
    exact ⟨hM.cell h0 (.inr (by omega)), hM.cell h1 (.inr (by omega)), hM.cell h2 (.inr (by omega)), hM.cell h3 (.inr (by omega)), hM.cell h4 (.inr (by omega))⟩
/-- Boxes that lie below block T. -/
def UnderP (T : Nat) (w : World) (a : Option Addr) (n : Nat) (E : Nat → Plc) : Prop := n = 0 ∨ ∃ b off, a = some ⟨b, off, none⟩ ∧ b < T ∧ LbAt w b off n E
theorem UnderP.is {T : Nat} {w : World} {a : Option Addr} {n : Nat} {E : Nat → Plc} (h : UnderP T w a n E) (hT : T ≤ w.heap.size) : IsLb w a n E := by
  rcases h with h | ⟨b, off, e, hl, hp⟩
  · exact .inl h
  · exact .inr ⟨b, off, e, by omega, hp⟩
theorem UnderP.below {T B : Nat} {w w' : World} {a : Option Addr} {n : Nat} {E : Nat → Plc} (h : UnderP T w a n E) (hb : Below B w w') (hB : T ≤ B) : UnderP T w' a n E := by
  rcases h with h | ⟨b, off, e, hl, hp⟩
  · exact .inl h
  · exact .inr ⟨b, off, e, hl, hp.below hb (by omega)⟩
theorem UnderP.mid {T lo hi : Nat} {w w' : World} {a : Option Addr} {n : Nat} {E : Nat → Plc} (h : UnderP T w a n E) (hM : MidB lo hi w w') (hT : T ≤ lo) : UnderP T w' a n E := by
  rcases h with h | ⟨b, off, e, hl, hp⟩
  · exact .inl h
  · refine .inr ⟨b, off, e, hl, fun i hi => ?_⟩
    obtain ⟨h0, h1, h2, h3, h4⟩ := hp i hi
    exact ⟨hM.cell h0 (.inl (by omega)), hM.cell h1 (.inl (by omega)), hM.cell h2 (.inl (by omega)), hM.cell h3 (.inl (by omega)), hM.cell h4 (.inl (by omega))⟩
theorem UnderP.row {T : Nat} {row : Option Nat} {w w' : World} {a : Option Addr} {n : Nat} {E : Nat → Plc} (h : UnderP T w a n E) (hg : w.grownBy w' row) (hs : ∀ s, row = some s → T ≤ s) : UnderP T w' a n E := by
  rcases h with h | ⟨b, off, e, hl, hp⟩
  · exact .inl h
  · refine .inr ⟨b, off, e, hl, fun i hi => ?_⟩
    obtain ⟨h0, h1, h2, h3, h4⟩ := hp i hi
    have hne : ∀ s, row = some s → b ≠ s := fun s e => by have := hs s e; omega
    exact ⟨ro_cell hg h0 hne, ro_cell hg h1 hne, ro_cell hg h2 hne, ro_cell hg h3 hne, ro_cell hg h4 hne⟩
set_option maxHeartbeats 1000000 in
theorem eqPlacedResult_any (c : Int) (a a' : Option Addr) (n cap cap' : Nat) (E : Nat → Plc) (w : World) (hp : IsLb w a n E) (hq : IsLb w a' n E) (hmax : n ≤ 1048576) :
    Calls Tryz.prog 19 #[.agg #[.int .i64 c, .slice a n cap], .agg #[.int .i64 c, .slice a' n cap']] w fun e w' => e = .returned (.bool true) ∧ Below w.heap.size w w' := by
  have HP : Hid (IsLb w a n E) := hp
  have HQ : Hid (IsLb w a' n E) := hq
  clear hp hq
  go_enter Tryz.func19, Tryz.ntmps19
  go_wp2_with fail
  generalize hW : ((w.alloc _).alloc _ : World) = W
  have HB : Below w.heap.size w W := by subst hW; (repeat (first | exact Below.refl _ _ | assumption | refine Below.drew ?_ | refine bl_alloc ?_ _ | refine bl_then ?_ (by assumption) | refine Below.setCell ?_ (by first | omega | (simp; done) | (simp; omega)) _ | refine bl_store ?_ ?_ _ _))
  clear hW
  refine (eqPlacedS_any _ _ _ _ _ E _ (HP.out.below HB) (HQ.out.below HB) hmax).mono ?_
  rintro e w' ⟨rfl, hb⟩
  go_wp2
  go_ret
  exact ⟨rfl, by (repeat (first | exact Below.refl _ _ | assumption | refine Below.drew ?_ | refine bl_alloc ?_ _ | refine bl_then ?_ (by assumption) | refine Below.setCell ?_ (by first | omega | (simp; done) | (simp; omega)) _ | refine bl_store ?_ ?_ _ _))⟩
set_option maxHeartbeats 1000000 in
theorem markPlacedResult_some (c : Int) (b n cap : Nat) (w : World) (hT : There w b (n * 5)) (hb : b < w.heap.size) (hmax : n ≤ 1048576) :
    Calls Tryz.prog 22 #[.agg #[.int .i64 c, .slice (some ⟨b, 0, none⟩) n cap], .int .i64 1] w fun e w' => e = .returned (.int .i64 ((1 + 5 * n : Nat) : Int)) ∧ w.grownBy w' (some b) ∧ There w' b (n * 5) ∧ LbAt w' b 0 n (mkP 1) := by
  have HT : Hid (There w b (n * 5)) := hT
  clear hT
  go_enter Tryz.func22, Tryz.ntmps22
  go_wp2_with fail
  generalize hW : (w.alloc _ : World) = W
  have HB : Below w.heap.size w W := by subst hW; (repeat (first | exact Below.refl _ _ | assumption | refine Below.drew ?_ | refine bl_alloc ?_ _ | refine bl_then ?_ (by assumption) | refine Below.setCell ?_ (by first | omega | (simp; done) | (simp; omega)) _ | refine bl_store ?_ ?_ _ _))
  clear hW
  refine (markPlacedS_mk b n _ 1 _ (HT.out.below HB) hmax (by omega)).mono ?_
  rintro e w' ⟨rfl, hG, hT', hP⟩
  have HG : Hid (w.grownBy w' (some b)) := grown_trans (grown_below HB) hG
  have HT' : Hid (There w' b (n * 5)) := hT'
  have HP' : Hid (LbAt w' b 0 n (mkP 1)) := hP
  clear hG hT' hP HB
  go_wp2
  go_ret
  exact ⟨rfl, HG.out, HT'.out, HP'.out⟩
theorem markPlacedResult_none (c : Int) (a : Option Addr) (cap : Nat) (w : World) :
    Calls Tryz.prog 22 #[.agg #[.int .i64 c, .slice a 0 cap], .int .i64 1] w fun e w' => e = .returned (.int .i64 ((1 + 5 * 0 : Nat) : Int)) ∧ Below w.heap.size w w' := by
  go_enter Tryz.func22, Tryz.ntmps22
  go_wp2_with (go_at_call 48; refine (markPlacedS_none _ _ _ _).mono ?_; rintro e w' ⟨rfl, rfl⟩)
  go_ret
  exact ⟨rfl, by (repeat (first | exact Below.refl _ _ | assumption | refine Below.drew ?_ | refine bl_alloc ?_ _ | refine bl_then ?_ (by assumption) | refine Below.setCell ?_ (by first | omega | (simp; done) | (simp; omega)) _ | refine bl_store ?_ ?_ _ _))⟩
theorem mark_ownP (c : Int) (base T n cap : Nat) (a : Option Addr) (E E0 : Nat → Plc) (w w0 : World) (h : OwnP w base (.slice a n cap) n E) (hU : UnderP T w0 a n E0) (hmax : n ≤ 1048576) :
    ∃ row : Option Nat, (∀ s, row = some s → base ≤ s ∧ s < T) ∧ Calls Tryz.prog 22 #[.agg #[.int .i64 c, .slice a n cap], .int .i64 1] w fun e w' => e = .returned (.int .i64 ((1 + 5 * n : Nat) : Int)) ∧ w.grownBy w' row ∧ OwnP w' base (.slice a n cap) n (mkP 1) := by
  obtain ⟨a', cap', hv, hc, h0 | ⟨b, ha, hbb, hl, hp, ht⟩⟩ := h
  · subst h0
    exact ⟨none, (fun s hs => by cases hs), (markPlacedResult_none c a cap w).mono fun e w' ⟨he, hb⟩ => ⟨he, grown_below hb, a', cap', hv, hc, .inl rfl⟩⟩
  · injection hv with h1 h2 h3
    subst h1 h3 ha
    by_cases h0 : n = 0
    · subst h0
      exact ⟨none, (fun s hs => by cases hs), (markPlacedResult_none c _ cap w).mono fun e w' ⟨he, hb⟩ => ⟨he, grown_below hb, _, cap, rfl, hc, .inl rfl⟩⟩
    · rcases hU with h' | ⟨b', off', e', hl', _⟩
      · exact absurd h' h0
      · injection e' with e'
        injection e' with e1 e2
        subst e1
        exact ⟨some b, (fun s hs => by injection hs with hs; subst hs; exact ⟨hbb, hl'⟩), (markPlacedResult_some c b n cap w ht hl hmax).mono fun e w' ⟨he, hg, ht', hp'⟩ => ⟨he, hg, _, cap, rfl, hc, .inr ⟨b, rfl, hbb, Nat.lt_of_lt_of_le hl hg.size, hp', ht'⟩⟩⟩
theorem heldPlacedResult_any (c : Int) (a : Option Addr) (n cap : Nat) (w : World) (hp : IsLb w a n (mkP 1)) (hmax : n ≤ 1048576) :
    Calls Tryz.prog 23 #[.agg #[.int .i64 c, .slice a n cap], .int .i64 1] w fun e w' => e = .returned (.int .i64 ((1 + 5 * n : Nat) : Int)) ∧ Below w.heap.size w w' := by
  have HP : Hid (IsLb w a n (mkP 1)) := hp
  clear hp
  have hneg : ¬ ((1 + 5 * n : Nat) : Int) < 0 := by omega
  have Hhd : Hid (∀ w, IsLb w a n (mkP 1) → Calls Tryz.prog 49 #[.slice a n cap, .int .i64 1] w fun e w' => e = .returned (.int .i64 ((1 + 5 * n : Nat) : Int)) ∧ Below w.heap.size w w') := fun w h1 => heldPlacedS_any a n cap 1 w h1 hmax (by omega)
  generalize ((1 + 5 * n : Nat) : Int) = q at *
  go_enter Tryz.func23, Tryz.ntmps23
  go_wp2_with fail
  generalize hW : (w.alloc _ : World) = W
  have HB : Below w.heap.size w W := by subst hW; (repeat (first | exact Below.refl _ _ | assumption | refine Below.drew ?_ | refine bl_alloc ?_ _ | refine bl_then ?_ (by assumption) | refine Below.setCell ?_ (by first | omega | (simp; done) | (simp; omega)) _ | refine bl_store ?_ ?_ _ _))
  clear hW
  refine (Hhd.out _ (HP.out.below HB)).mono ?_
  rintro e w' ⟨rfl, hb'⟩
  go_wp2
  go_ret
  exact ⟨rfl, by (repeat (first | exact Below.refl _ _ | assumption | refine Below.drew ?_ | refine bl_alloc ?_ _ | refine bl_then ?_ (by assumption) | refine Below.setCell ?_ (by first | omega | (simp; done) | (simp; omega)) _ | refine bl_store ?_ ?_ _ _))⟩
end Go.Proofs.YtdohlnnbibnnbaaGreat
