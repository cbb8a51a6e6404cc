/- Numbers in memory of their own: they are compared, marked, and the marks are found again. -/
import Derived.Test.YtjkmjkfakolpfaaRows
import Derived.Test.YtjkmjkfakolpfaaPlain
import Derived.Test.YtjkmjkfakolpfaaReg
import Derived.WalkKit
import Derived.WalkSpells
import Derived.WalkLawsBesides
import Derived.Outline
import Derived.Deep.RegionHeld3
import Derived.Deep.OwnRows
import Derived.Deep.LoopGhost
import Derived.Laws.OwnMore
namespace Go.Proofs.Ytjkmjkfakolpfaa
open Go.RowKit
set_option linter.unusedSimpArgs false
set_option linter.unusedVariables false
set_option maxRecDepth 100000

def IsNs (w : World) (a : Option Addr) (n : Nat) (Z : Nat → Int) : Prop :=
  n = 0 ∨ ∃ b off, a = some ⟨b, off, none⟩ ∧ b < w.heap.size ∧ ∀ i, i < n → w.cell? ⟨b, off + i, none⟩ = some (.int .i64 (Z i))
theorem IsNs.below {w w' : World} {a : Option Addr} {n : Nat} {Z : Nat → Int} (h : IsNs w a n Z) (hb : Below w.heap.size w w') : IsNs w' a n Z := by
  rcases h with h | ⟨b, off, e, hl, hz⟩
  · exact .inl h
  · exact .inr ⟨b, off, e, Nat.lt_of_lt_of_le hl hb.size, fun i hi => (hb.cell (p := ⟨b, off + i, none⟩) hl).trans (hz i hi)⟩
def NsAt (w : World) (b off n : Nat) (Z : Nat → Int) : Prop := ∀ i, i < n → w.cell? ⟨b, off + i, none⟩ = some (.int .i64 (Z i))
theorem NsAt.below {w w' : World} {b off n B : Nat} {Z : Nat → Int} (h : NsAt w b off n Z) (hb : Below B w w') (hB : b < B) : NsAt w' b off n Z := fun i hi => (hb.cell (p := ⟨b, off + i, none⟩) hB).trans (h i hi)
theorem NsAt.is {w : World} {b off n : Nat} {Z : Nat → Int} (h : NsAt w b off n Z) (hb : b < w.heap.size) : IsNs w (some ⟨b, off, none⟩) n Z := .inr ⟨b, off, rfl, hb, h⟩
theorem There.setN {W : World} {r n : Nat} (h : There W r n) (o : Nat) (v : Value) : There (W.setCell ⟨r, o, none⟩ v) r n := fun o' ho => by
  obtain ⟨u, hu⟩ := (h o' ho).1
  refine ⟨?_, ?_⟩
  · by_cases e : o = o'
    · subst e
      exact ⟨v, World.cell?_setCell_same _ _ _ (by rw [hu])⟩
    · exact ⟨u, by rw [World.cell?_setCell_other]; exact hu; simp [e]⟩
  · rw [World.frozen?_setCell]; exact (h o' ho).2
theorem fillN {W : World} {B n k : Nat} {Z : Nat → Int} (hT : There W B n) (hk : k < n) (hp : NsAt W B 0 k Z) : NsAt (W.setCell ⟨B, k, none⟩ (.int .i64 (Z k))) B 0 (k + 1) Z := fun i hi => by
  by_cases e : i = k
  · subst e
    obtain ⟨u, hu⟩ := (hT i hk).1
    simpa using World.cell?_setCell_same _ _ _ (by rw [hu])
  · rw [World.cell?_setCell_other]
    · exact hp i (by omega)
    · simp <;> omega
theorem grown_setN {w w' : World} {b : Nat} (h : w.grownBy w' (some b)) (o : Nat) (v : Value) : w.grownBy (w'.setCell ⟨b, o, none⟩ v) (some b) := by
  have hb : Below b w' (w'.setCell ⟨b, o, none⟩ v) := (Below.refl b w').setCell (Nat.le_refl _) v
  exact ⟨hb.os.trans h.os, hb.tape.trans h.tape, hb.output.trans h.output, Nat.le_trans h.size hb.size, fun k hk hne => (Below.heap_setCell w' ⟨b, o, none⟩ v k (fun e => hne (by simp at e; rw [e]))).trans (h.block k hk hne)⟩
theorem grown_reflN (w : World) (row : Option Nat) : w.grownBy w row := ⟨rfl, rfl, rfl, Nat.le_refl _, fun _ _ _ => rfl⟩
set_option maxHeartbeats 1000000 in
theorem eqInt64S_any (a c : Option Addr) (n capa capc : Nat) (Z : Nat → Int) (w : World) (hp : IsNs w a n Z) (hq : IsNs w c n Z) (hmax : n ≤ 1048576) :
    Calls Try.prog 15 #[.slice a n capa, .slice c n capc] w fun e w' => e = .returned (.bool true) ∧ Below w.heap.size w w' := by
  have HP : Hid (IsNs w a n Z) := hp
  have HQ : Hid (IsNs w c n Z) := hq
  clear hp hq
  go_enter Try.func15, Try.ntmps15
  go_wp2
  go_loopw [5] (fun i wr => ∃ k : Nat, k ≤ n ∧ i = .int .i64 k ∧ Below w.heap.size w wr) (fun i _ => n - (intOf i).toNat)
  case atStart => exact ⟨0, by omega, rfl, Below.refl _ _⟩
  case round =>
    obtain ⟨k, hk, rfl, hB⟩ := hrel
    by_cases hlt : k < n
    · rcases HP.out with h0 | ⟨b, off, rfl, hbl, hpt⟩
      · omega
      rcases HQ.out with h0 | ⟨d, offd, rfl, hdl, hqt⟩
      · omega
      have c0 : ∀ W', Below wr.heap.size wr W' → W'.cell? ⟨b, off + k, none⟩ = some (.int .i64 (Z k)) := fun W' h => by
        rw [h.cell (Nat.lt_of_lt_of_le hbl hB.size)]; exact (hB.cell (p := ⟨b, off + k, none⟩) hbl).trans (hpt k hlt)
      have e0 : ∀ W', Below wr.heap.size wr W' → W'.cell? ⟨d, offd + k, none⟩ = some (.int .i64 (Z k)) := fun W' h => by
        rw [h.cell (Nat.lt_of_lt_of_le hdl hB.size)]; exact (hB.cell (p := ⟨d, offd + k, none⟩) hdl).trans (hqt k hlt)
      have HB : Hid (Below w.heap.size w wr) := hB
      clear hB hpt hqt
      have hi : (k : Int) < (n : Int) := by omega
      have hi0 : (0 : Int) ≤ (k : Int) := by omega
      go_wp2
      go_region_held3 (fun W' => Below wr.heap.size wr W') ((repeat (first | exact Below.refl _ _ | assumption | refine Below.drew ?_ | refine bl_alloc ?_ _ | refine bl_then ?_ (by assumption) | refine Below.setCell ?_ (by first | omega | (simp; done) | (simp; omega)) _ | refine bl_store ?_ ?_ _ _))) (fail)
      go_wp2
      go_roundw
      case rel => exact ⟨k + 1, by omega, by go_num, bl_then HB.out (by assumption)⟩
      case measure => simp [intOf]; omega
    · go_wp2
      go_ret
      exact ⟨rfl, hB⟩
/-- The marks from k0 on. -/
def mkN (k0 i : Nat) : Int := ((k0 + i : Nat) : Int)
set_option maxHeartbeats 1000000 in
theorem markInt64S_any (b n cap k0 : Nat) (w : World) (hT : There w b n) (hb : b < w.heap.size) (hmax : n ≤ 1048576) (hk0 : k0 ≤ 1125899906842624) :
    Calls Try.prog 16 #[.slice (some ⟨b, 0, none⟩) n cap, .int .i64 (k0 : Int)] w fun e w' => e = .returned (.int .i64 ((k0 + n : Nat) : Int)) ∧ w.grownBy w' (some b) ∧ There w' b n ∧ NsAt w' b 0 n (mkN k0) := by
  have HT0 : Hid (There w b n) := hT
  clear hT
  go_enter Try.func16, Try.ntmps16
  go_wp2_with fail
  go_loopw [1, 5] (fun kk i wr => ∃ j K : Nat, j ≤ n ∧ Hid (K = k0 + j) ∧ kk = .int .i64 (K : Int) ∧ i = .int .i64 (j : Int) ∧ w.grownBy wr (some b) ∧ There wr b n ∧ NsAt wr b 0 j (mkN k0)) (fun _ i _ => n - (intOf i).toNat)
  case atStart => exact ⟨0, k0, by omega, rfl, rfl, rfl, grown_reflN _ _, HT0.out, fun i hi => by omega⟩
  case round =>
    obtain ⟨j, K, hj, HK, rfl, rfl, hG, hT, hP⟩ := hrel
    by_cases hlt : j < n
    · have hKb : K ≤ 1125899908939776 := by have := HK.out; omega
      have t0 := hT.cell j hlt
      have f0 := (hT j hlt).2
      have HT : Hid (There wr b n) := hT
      have HG : Hid (w.grownBy wr (some b)) := hG
      have HP : Hid (NsAt wr b 0 j (mkN k0)) := hP
      clear hT hG hP
      have hi : (j : Int) < (n : Int) := by omega
      have hi0 : (0 : Int) ≤ (j : Int) := by omega
      have hw : mkN k0 j = (K : Int) := by have := HK.out; simp [mkN]; omega
      go_wp2
      go_roundw
      case rel =>
        exact ⟨j + 1, K + 1, by omega, by have := HK.out; show _ = _; omega, by go_num, by go_num, grown_setN HG.out _ _, HT.out.setN _ _, by have h := fillN HT.out hlt HP.out; rw [hw] at h; exact h⟩
      case measure => simp [intOf]; omega
    · go_wp2
      go_ret
      have hjn : j = n := by omega
      subst hjn
      exact ⟨ret_int (by have := HK.out; omega), hG, hT, hP⟩
theorem markInt64S_none (a : Option Addr) (cap : Nat) (k : Int) (w : World) : Calls Try.prog 16 #[.slice a 0 cap, .int .i64 k] w fun e w' => e = .returned (.int .i64 k) ∧ w = w' := by
  go_enter Try.func16, Try.ntmps16
  go_wp2_with fail
  go_loopw [1, 5] (fun kk i wr => kk = .int .i64 k ∧ i = .int .i64 0 ∧ w = wr) (fun _ _ _ => 0)
  case atStart => exact ⟨rfl, rfl, rfl⟩
  case round =>
    obtain ⟨rfl, rfl, rfl⟩ := hrel
    go_wp2
    go_ret
    exact ⟨rfl, rfl⟩
set_option maxHeartbeats 1000000 in
theorem heldInt64S_any (a : Option Addr) (n cap k0 : Nat) (w : World) (hp : IsNs w a n (mkN k0)) (hmax : n ≤ 1048576) (hk0 : k0 ≤ 1125899906842624) :
    Calls Try.prog 37 #[.slice a n cap, .int .i64 (k0 : Int)] w fun e w' => e = .returned (.int .i64 ((k0 + n : Nat) : Int)) ∧ Below w.heap.size w w' := by
  have HP : Hid (IsNs w a n (mkN k0)) := hp
  clear hp
  go_enter Try.func37, Try.ntmps37
  go_wp2_with fail
  go_loopw [1, 5] (fun kk i wr => ∃ j K : Nat, j ≤ n ∧ Hid (K = k0 + j) ∧ kk = .int .i64 (K : Int) ∧ i = .int .i64 (j : Int) ∧ Below w.heap.size w wr) (fun _ i _ => n - (intOf i).toNat)
  case atStart => exact ⟨0, k0, by omega, rfl, rfl, rfl, Below.refl _ _⟩
  case round =>
    obtain ⟨j, K, hj, HK, rfl, rfl, hB⟩ := hrel
    by_cases hlt : j < n
    · rcases HP.out with h0 | ⟨b, off, rfl, hbl, hpt⟩
      · omega
      have hKb : K ≤ 1125899908939776 := by have := HK.out; omega
      have hw : mkN k0 j = (K : Int) := by have := HK.out; simp [mkN]; omega
      have t0 : wr.cell? ⟨b, off + j, none⟩ = some (.int .i64 (mkN k0 j)) := (hB.cell (p := ⟨b, off + j, none⟩) hbl).trans (hpt j hlt)
      have HB : Hid (Below w.heap.size w wr) := hB
      clear hB hpt
      have hi : (j : Int) < (n : Int) := by omega
      have hi0 : (0 : Int) ≤ (j : Int) := by omega
      generalize mkN k0 j = x at *
      go_wp2
      go_roundw
      case rel => exact ⟨j + 1, K + 1, by omega, by have := HK.out; show _ = _; omega, by go_num, by go_num, HB.out⟩
      case measure => simp [intOf]; omega
    · go_wp2
      go_ret
      have hjn : j = n := by omega
      subst hjn
      exact ⟨ret_int (by have := HK.out; omega), hB⟩
/-- v is a list of n bytes in a block from base on. -/
def OwnN (w : World) (base : Nat) (v : Value) (n : Nat) (Z : Nat → Int) : Prop :=
  ∃ a cap, v = .slice a n cap ∧ n ≤ cap ∧ (n = 0 ∨ ∃ b, a = some ⟨b, 0, none⟩ ∧ base ≤ b ∧ b < w.heap.size ∧ NsAt w b 0 n Z ∧ There w b n)
theorem OwnN.below {w w' : World} {base : Nat} {v : Value} {n : Nat} {Z : Nat → Int} (h : OwnN w base v n Z) (hb : Below w.heap.size w w') : OwnN w' base v n Z := by
  obtain ⟨a, cap, hv, hc, h0 | ⟨b, ha, hbb, hl, hp, ht⟩⟩ := h
  · exact ⟨a, cap, hv, hc, .inl h0⟩
  · exact ⟨a, cap, hv, hc, .inr ⟨b, ha, hbb, Nat.lt_of_lt_of_le hl hb.size, hp.below hb hl, ht.below hb⟩⟩
theorem OwnN.pts {w : World} {base : Nat} {v : Value} {n : Nat} {Z : Nat → Int} (h : OwnN w base v n Z) : ∃ a cap, v = .slice a n cap ∧ n ≤ cap ∧ IsNs w a n Z := by
  obtain ⟨a, cap, hv, hc, h0 | ⟨b, ha, hb, hl, hp, ht⟩⟩ := h
  · exact ⟨a, cap, hv, hc, .inl h0⟩
  · exact ⟨a, cap, hv, hc, .inr ⟨b, 0, ha, hl, hp⟩⟩
theorem OwnN.is {w : World} {base : Nat} {a : Option Addr} {n cap : Nat} {Z : Nat → Int} (h : OwnN w base (.slice a n cap) n Z) : IsNs w a n Z := by
  obtain ⟨a', cap', hv, hc, hi⟩ := h.pts
  injection hv with h1 h2 h3
  subst h1
  exact hi
/-- Bytes that lie below block T. -/
def UnderN (T : Nat) (w : World) (a : Option Addr) (n : Nat) (Z : Nat → Int) : Prop := n = 0 ∨ ∃ b off, a = some ⟨b, off, none⟩ ∧ b < T ∧ NsAt w b off n Z
theorem UnderN.is {T : Nat} {w : World} {a : Option Addr} {n : Nat} {Z : Nat → Int} (h : UnderN T w a n Z) (hT : T ≤ w.heap.size) : IsNs w a n Z := by
  rcases h with h | ⟨b, off, e, hl, hp⟩
  · exact .inl h
  · exact .inr ⟨b, off, e, by omega, hp⟩
theorem UnderN.below {T B : Nat} {w w' : World} {a : Option Addr} {n : Nat} {Z : Nat → Int} (h : UnderN T w a n Z) (hb : Below B w w') (hB : T ≤ B) : UnderN T w' a n Z := by
  rcases h with h | ⟨b, off, e, hl, hp⟩
  · exact .inl h
  · exact .inr ⟨b, off, e, hl, hp.below hb (by omega)⟩
theorem UnderN.row {T : Nat} {row : Option Nat} {w w' : World} {a : Option Addr} {n : Nat} {Z : Nat → Int} (h : UnderN T w a n Z) (hg : w.grownBy w' row) (hs : ∀ s, row = some s → T ≤ s) : UnderN T w' a n Z := by
  rcases h with h | ⟨b, off, e, hl, hp⟩
  · exact .inl h
  · exact .inr ⟨b, off, e, hl, fun i hi => hg.cell (hp i hi) (fun e => by have := hs b e.symm; omega)⟩
theorem below_rowN {B : Nat} {row : Option Nat} {a b : World} (h : a.grownBy b row) (hs : ∀ s, row = some s → B ≤ s) (hl : B ≤ a.heap.size) : Below B a b :=
  ⟨h.os, h.tape, h.output, h.size, fun k hk => h.block k (by omega) (fun e => by have := hs k e.symm; omega)⟩
theorem grown_transN {a b c : World} {r : Option Nat} (h : a.grownBy b r) (k : b.grownBy c r) : a.grownBy c r :=
  ⟨k.os.trans h.os, k.tape.trans h.tape, k.output.trans h.output, Nat.le_trans h.size k.size, fun j hj hs => (k.block j (Nat.lt_of_lt_of_le hj h.size) hs).trans (h.block j hj hs)⟩
theorem grown_belowN {a b : World} {r : Option Nat} (h : Below a.heap.size a b) : a.grownBy b r := ⟨h.os, h.tape, h.output, h.size, fun j hj _ => h.block j hj⟩
theorem bl_cellN {w w' : World} {p : Addr} {v : Value} (hb : Below w.heap.size w w') (h : w.cell? p = some v) : w'.cell? p = some v := (hb.cell (World.block_lt_of_cell? _ _ h)).trans h
theorem ro_cellN {w w' : World} {b o : Nat} {row : Option Nat} {v : Value} (hg : w.grownBy w' row) (h : w.cell? ⟨b, o, none⟩ = some v) (hs : ∀ s, row = some s → b ≠ s) : w'.cell? ⟨b, o, none⟩ = some v := hg.cell h (fun e => hs _ e.symm rfl)

set_option maxHeartbeats 1000000 in
theorem eqIntsResult_any (c : Int) (a a' : Option Addr) (n cap cap' : Nat) (Z : Nat → Int) (w : World) (hp : IsNs w a n Z) (hq : IsNs w a' n Z) (hmax : n ≤ 1048576) :
    Calls Try.prog 14 #[.agg #[.int .i64 c, .slice a n cap], .agg #[.int .i64 c, .slice a' n cap']] w fun e w' => e = .returned (.bool true) ∧ Below w.heap.size w w' := by
  have HP : Hid (IsNs w a n Z) := hp
  have HQ : Hid (IsNs w a' n Z) := hq
  clear hp hq
  go_enter Try.func14, Try.ntmps14
  go_wp2_with fail
  generalize hW : ((w.alloc _).alloc _ : World) = W
  have HB : Below w.heap.size w W := by subst hW; (repeat (first | exact Below.refl _ _ | assumption | refine Below.drew ?_ | refine bl_alloc ?_ _ | refine bl_then ?_ (by assumption) | refine Below.setCell ?_ (by first | omega | (simp; done) | (simp; omega)) _ | refine bl_store ?_ ?_ _ _))
  clear hW
  refine (eqInt64S_any _ _ _ _ _ Z _ (HP.out.below HB) (HQ.out.below HB) hmax).mono ?_
  rintro e w' ⟨rfl, hb⟩
  go_wp2
  go_ret
  exact ⟨rfl, by (repeat (first | exact Below.refl _ _ | assumption | refine Below.drew ?_ | refine bl_alloc ?_ _ | refine bl_then ?_ (by assumption) | refine Below.setCell ?_ (by first | omega | (simp; done) | (simp; omega)) _ | refine bl_store ?_ ?_ _ _))⟩
set_option maxHeartbeats 1000000 in
theorem markIntsResult_some (c : Int) (b n cap : Nat) (w : World) (hT : There w b n) (hb : b < w.heap.size) (hmax : n ≤ 1048576) :
    Calls Try.prog 17 #[.agg #[.int .i64 c, .slice (some ⟨b, 0, none⟩) n cap], .int .i64 1] w fun e w' => e = .returned (.int .i64 ((1 + n : Nat) : Int)) ∧ w.grownBy w' (some b) ∧ There w' b n ∧ NsAt w' b 0 n (mkN 1) := by
  have HT : Hid (There w b n) := hT
  clear hT
  go_enter Try.func17, Try.ntmps17
  go_wp2_with fail
  generalize hW : (w.alloc _ : World) = W
  have HB : Below w.heap.size w W := by subst hW; (repeat (first | exact Below.refl _ _ | assumption | refine Below.drew ?_ | refine bl_alloc ?_ _ | refine bl_then ?_ (by assumption) | refine Below.setCell ?_ (by first | omega | (simp; done) | (simp; omega)) _ | refine bl_store ?_ ?_ _ _))
  clear hW
  refine (markInt64S_any b n _ 1 _ (HT.out.below HB) (Nat.lt_of_lt_of_le hb HB.size) hmax (by omega)).mono ?_
  rintro e w' ⟨rfl, hG, hT', hP⟩
  have HG : Hid (w.grownBy w' (some b)) := grown_transN (grown_belowN HB) hG
  have HT' : Hid (There w' b n) := hT'
  have HP' : Hid (NsAt w' b 0 n (mkN 1)) := hP
  clear hG hT' hP HB
  go_wp2
  go_ret
  exact ⟨rfl, HG.out, HT'.out, HP'.out⟩
theorem markIntsResult_none (c : Int) (a : Option Addr) (cap : Nat) (w : World) :
    Calls Try.prog 17 #[.agg #[.int .i64 c, .slice a 0 cap], .int .i64 1] w fun e w' => e = .returned (.int .i64 ((1 + 0 : Nat) : Int)) ∧ Below w.heap.size w w' := by
  go_enter Try.func17, Try.ntmps17
  go_wp2_with (go_at_call 16; refine (markInt64S_none _ _ _ _).mono ?_; rintro e w' ⟨rfl, rfl⟩)
  go_ret
  exact ⟨rfl, by (repeat (first | exact Below.refl _ _ | assumption | refine Below.drew ?_ | refine bl_alloc ?_ _ | refine bl_then ?_ (by assumption) | refine Below.setCell ?_ (by first | omega | (simp; done) | (simp; omega)) _ | refine bl_store ?_ ?_ _ _))⟩
theorem mark_ownN (c : Int) (base T n cap : Nat) (a : Option Addr) (Z Z0 : Nat → Int) (w w0 : World) (h : OwnN w base (.slice a n cap) n Z) (hU : UnderN T w0 a n Z0) (hmax : n ≤ 1048576) :
    ∃ row : Option Nat, (∀ s, row = some s → base ≤ s ∧ s < T) ∧ Calls Try.prog 17 #[.agg #[.int .i64 c, .slice a n cap], .int .i64 1] w fun e w' => e = .returned (.int .i64 ((1 + n : Nat) : Int)) ∧ w.grownBy w' row ∧ OwnN w' base (.slice a n cap) n (mkN 1) := by
  obtain ⟨a', cap', hv, hc, h0 | ⟨b, ha, hbb, hl, hp, ht⟩⟩ := h
  · subst h0
    exact ⟨none, (fun s hs => by cases hs), (markIntsResult_none c a cap w).mono fun e w' ⟨he, hb⟩ => ⟨he, grown_belowN hb, a', cap', hv, hc, .inl rfl⟩⟩
  · injection hv with h1 h2 h3
    subst h1 h3 ha
    by_cases h0 : n = 0
    · subst h0
      exact ⟨none, (fun s hs => by cases hs), (markIntsResult_none c _ cap w).mono fun e w' ⟨he, hb⟩ => ⟨he, grown_belowN hb, _, cap, rfl, hc, .inl rfl⟩⟩
    · rcases hU with h' | ⟨b', off', e', hl', _⟩
      · exact absurd h' h0
      · injection e' with e'
        injection e' with e1 e2
        subst e1
        exact ⟨some b, (fun s hs => by injection hs with hs; subst hs; exact ⟨hbb, hl'⟩), (markIntsResult_some c b n cap w ht hl hmax).mono fun e w' ⟨he, hg, ht', hp'⟩ => ⟨he, hg, _, cap, rfl, hc, .inr ⟨b, rfl, hbb, Nat.lt_of_lt_of_le hl hg.size, hp', ht'⟩⟩⟩
set_option maxHeartbeats 1000000 in
theorem heldIntsResult_any (c : Int) (a : Option Addr) (n cap : Nat) (w : World) (hp : IsNs w a n (mkN 1)) (hmax : n ≤ 1048576) :
    Calls Try.prog 18 #[.agg #[.int .i64 c, .slice a n cap], .int .i64 1] w fun e w' => e = .returned (.int .i64 ((1 + n : Nat) : Int)) ∧ Below w.heap.size w w' := by
  have HP : Hid (IsNs w a n (mkN 1)) := hp
  clear hp
  have hqm : ¬ ((1 + n : Nat) : Int) < 0 := by omega
  go_enter Try.func18, Try.ntmps18
  go_wp2_with fail
  generalize hW : (w.alloc _ : World) = W
  have HB : Below w.heap.size w W := by subst hW; (repeat (first | exact Below.refl _ _ | assumption | refine Below.drew ?_ | refine bl_alloc ?_ _ | refine bl_then ?_ (by assumption) | refine Below.setCell ?_ (by first | omega | (simp; done) | (simp; omega)) _ | refine bl_store ?_ ?_ _ _))
  clear hW
  have HH : Hid (Calls Try.prog 37 #[.slice a n cap, .int .i64 ((1 : Nat) : Int)] W fun e w' => e = .returned (.int .i64 ((1 + n : Nat) : Int)) ∧ Below W.heap.size W w') := heldInt64S_any a n cap 1 W (HP.out.below HB) hmax (by omega)
  obtain ⟨q, hq⟩ : ∃ q : Int, ((1 + n : Nat) : Int) = q := ⟨_, rfl⟩
  rw [hq] at HH hqm
  have HQ : Hid (((1 + n : Nat) : Int) = q) := hq
  clear hq
  refine Calls.mono HH.out ?_
  rintro e w' ⟨rfl, hb⟩
  go_wp2
  go_ret
  exact ⟨ret_int HQ.out.symm, by (repeat (first | exact Below.refl _ _ | assumption | refine Below.drew ?_ | refine bl_alloc ?_ _ | refine bl_then ?_ (by assumption) | refine Below.setCell ?_ (by first | omega | (simp; done) | (simp; omega)) _ | refine bl_store ?_ ?_ _ _))⟩
end Go.Proofs.Ytjkmjkfakolpfaa
