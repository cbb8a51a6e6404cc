/- Several texts in one. -/
import Derived.Test.YtciidkmonfmipaaGreatRows
import Derived.Test.YtciidkmonfmipaaGreatVPutTile1
import Derived.WalkKit
import Derived.WalkSpells
import Derived.WalkLawsBesides
import Derived.Outline
import Derived.Deep.RegionHeld3
import Derived.Deep.OwnRows
import Derived.Deep.LoopGhost
import Derived.Laws.OwnMore
import Derived.Test.YtciidkmonfmipaaGreatVPutTile7
import Derived.Test.YtciidkmonfmipaaGreatVPutTile14
import Derived.Test.YtciidkmonfmipaaGreatVPutTile3
import Derived.Test.YtciidkmonfmipaaGreatVPutTile5

/- Numbers in memory of their own: they are compared, marked, and the marks are found again. -/

namespace Go.Proofs.YtciidkmonfmipaaGreat
open Go.RowKit
set_option linter.unusedSimpArgs false
set_option linter.unusedVariables false
set_option maxRecDepth 100000

def IsNs (w : World) (a : Option Addr) (n : Nat) (Z : Nat → Int) : Prop :=
  n = 0 ∨ ∃ b off, a = some ⟨b, off, none⟩ ∧ b < w.heap.size ∧ ∀ i, i < n → w.cell? ⟨b, off + i, none⟩ = some (.int .i64 (Z i))
theorem IsNs.below {w w' : World} {a : Option Addr} {n : Nat} {Z : Nat → Int} (h : IsNs w a n Z) (hb : Below w.heap.size w w') : IsNs w' a n Z := by
  rcases h with h | ⟨b, off, e, hl, hz⟩
  · exact .inl h
  · exact .inr ⟨b, off, e, Nat.lt_of_lt_of_le hl hb.size, fun i hi => (hb.cell (p := ⟨b, off + i, none⟩) hl).trans (hz i hi)⟩
def NsAt (w : World) (b off n : Nat) (Z : Nat → Int) : Prop := ∀ i, i < n → w.cell? ⟨b, off + i, none⟩ = some (.int .i64 (Z i))
theorem NsAt.below {w w' : World} {b off n B : Nat} {Z : Nat → Int} (h : NsAt w b off n Z) (hb : Below B w w') (hB : b < B) : NsAt w' b off n Z := fun i hi => (hb.cell (p := ⟨b, off + i, none⟩) hB).trans (h i hi)
theorem NsAt.is {w : World} {b off n : Nat} {Z : Nat → Int} (h : NsAt w b off n Z) (hb : b < w.heap.size) : IsNs w (some ⟨b, off, none⟩) n Z := .inr ⟨b, off, rfl, hb, h⟩
theorem There.setN {W : World} {r n : Nat} (h : There W r n) (o : Nat) (v : Value) : There (W.setCell ⟨r, o, none⟩ v) r n := fun o' ho => by
  obtain ⟨u, hu⟩ := (h o' ho).1
  refine ⟨?_, ?_⟩
  · by_cases e : o = o'
    · subst e
      exact ⟨v, World.cell?_setCell_same _ _ _ (by rw [hu])⟩
    · exact ⟨u, by rw [World.cell?_setCell_other]; exact hu; simp [e]⟩
  · rw [World.frozen?_setCell]; exact (h o' ho).2
theorem fillN {W : World} {B n k : Nat} {Z : Nat → Int} (hT : There W B n) (hk : k < n) (hp : NsAt W B 0 k Z) : NsAt (W.setCell ⟨B, k, none⟩ (.int .i64 (Z k))) B 0 (k + 1) Z := fun i hi => by
  by_cases e : i = k
  · subst e
    obtain ⟨u, hu⟩ := (hT i hk).1
    simpa using World.cell?_setCell_same _ _ _ (by rw [hu])
  · rw [World.cell?_setCell_other]
    · exact hp i (by omega)
    · simp <;> omega
theorem grown_setN {w w' : World} {b : Nat} (h : w.grownBy w' (some b)) (o : Nat) (v : Value) : w.grownBy (w'.setCell ⟨b, o, none⟩ v) (some b) := by
  have hb : Below b w' (w'.setCell ⟨b, o, none⟩ v) := (Below.refl b w').setCell (Nat.le_refl _) v
  exact ⟨hb.os.trans h.os, hb.tape.trans h.tape, hb.output.trans h.output, Nat.le_trans h.size hb.size, fun k hk hne => (Below.heap_setCell w' ⟨b, o, none⟩ v k (fun e => hne (by simp at e; rw [e]))).trans (h.block k hk hne)⟩
theorem grown_reflN (w : World) (row : Option Nat) : w.grownBy w row := ⟨rfl, rfl, rfl, Nat.le_refl _, fun _ _ _ => rfl⟩
set_option maxHeartbeats 1000000 in
theorem eqInt64S_any (a c : Option Addr) (n capa capc : Nat) (Z : Nat → Int) (w : World) (hp : IsNs w a n Z) (hq : IsNs w c n Z) (hmax : n ≤ 1048576) :
    Calls Tryz.prog 108 #[.slice a n capa, .slice c n capc] w fun e w' => e = .returned (.bool true) ∧ Below w.heap.size w w' := by
  have HP : Hid (IsNs w a n Z) := hp
  have HQ : Hid (IsNs w c n Z) := hq
  clear hp hq
  go_enter Tryz.func108, Tryz.ntmps108
  go_wp2
  go_loopw [5] (fun i wr => ∃ k : Nat, k ≤ n ∧ i = .int .i64 k ∧ Below w.heap.size w wr) (fun i _ => n - (intOf i).toNat)
  case atStart => exact ⟨0, by omega, rfl, Below.refl _ _⟩
  case round =>
    obtain ⟨k, hk, rfl, hB⟩ := hrel
    by_cases hlt : k < n
    · rcases HP.out with h0 | ⟨b, off, rfl, hbl, hpt⟩
      · omega
      rcases HQ.out with h0 | ⟨d, offd, rfl, hdl, hqt⟩
      · omega
      have c0 : ∀ W', Below wr.heap.size wr W' → W'.cell? ⟨b, off + k, none⟩ = some (.int .i64 (Z k)) := fun W' h => by
        rw [h.cell (Nat.lt_of_lt_of_le hbl hB.size)]; exact (hB.cell (p := ⟨b, off + k, none⟩) hbl).trans (hpt k hlt)
      have e0 : ∀ W', Below wr.heap.size wr W' → W'.cell? ⟨d, offd + k, none⟩ = some (.int .i64 (Z k)) := fun W' h => by
        rw [h.cell (Nat.lt_of_lt_of_le hdl hB.size)]; exact (hB.cell (p := ⟨d, offd + k, none⟩) hdl).trans (hqt k hlt)
      have HB : Hid (Below w.heap.size w wr) := hB
      clear hB hpt hqt
      have hi : (k : Int) < (n : Int) := by omega
      have hi0 : (0 : Int) ≤ (k : Int) := by omega
      go_wp2
      go_region_held3 (fun W' => Below wr.heap.size wr W') ((repeat (first | exact Below.refl _ _ | assumption | refine Below.drew ?_ | refine bl_alloc ?_ _ | refine bl_then ?_ (by assumption) | refine Below.setCell ?_ (by first | omega | (simp; done) | (simp; omega)) _ | refine bl_store ?_ ?_ _ _))) (fail)
      go_wp2
      go_roundw
      case rel => exact ⟨k + 1, by omega, by go_num, bl_then HB.out (by assumption)⟩
      case measure => simp [intOf]; omega
    · go_wp2
      go_ret
      exact ⟨rfl, hB⟩
/-- The marks from k0 on. -/
def mkN (k0 i : Nat) : Int := ((k0 + i : Nat) : Int)
set_option maxHeartbeats 1000000 in
theorem markInt64S_any (b n cap k0 : Nat) (w : World) (hT : There w b n) (hb : b < w.heap.size) (hmax : n ≤ 1048576) (hk0 : k0 ≤ 6000000000000000000) :
    Calls Tryz.prog 73 #[.slice (some ⟨b, 0, none⟩) n cap, .int .i64 (k0 : Int)] w fun e w' => e = .returned (.int .i64 ((k0 + n : Nat) : Int)) ∧ w.grownBy w' (some b) ∧ There w' b n ∧ NsAt w' b 0 n (mkN k0) := by
  have HT0 : Hid (There w b n) := hT
  clear hT
  go_enter Tryz.func73, Tryz.ntmps73
  go_wp2_with fail
  go_loopw [1, 5] (fun kk i wr => ∃ j K : Nat, j ≤ n ∧ Hid (K = k0 + j) ∧ kk = .int .i64 (K : Int) ∧ i = .int .i64 (j : Int) ∧ w.grownBy wr (some b) ∧ There wr b n ∧ NsAt wr b 0 j (mkN k0)) (fun _ i _ => n - (intOf i).toNat)
  case atStart => exact ⟨0, k0, by omega, rfl, rfl, rfl, grown_reflN _ _, HT0.out, fun i hi => by omega⟩
  case round =>
    obtain ⟨j, K, hj, HK, rfl, rfl, hG, hT, hP⟩ := hrel
    by_cases hlt : j < n
    · have hKb : K ≤ 6000000000002097152 := by have := HK.out; omega
      have t0 := hT.cell j hlt
      have f0 := (hT j hlt).2
      have HT : Hid (There wr b n) := hT
      have HG : Hid (w.grownBy wr (some b)) := hG
      have HP : Hid (NsAt wr b 0 j (mkN k0)) := hP
      clear hT hG hP
      have hi : (j : Int) < (n : Int) := by omega
      have hi0 : (0 : Int) ≤ (j : Int) := by omega
      have hw : mkN k0 j = (K : Int) := by have := HK.out; simp [mkN]; omega
      go_wp2
      go_roundw
      case rel =>
        exact ⟨j + 1, K + 1, by omega, by have := HK.out; show _ = _; omega, by go_num, by go_num, grown_setN HG.out _ _, HT.out.setN _ _, by have h := fillN HT.out hlt HP.out; rw [hw] at h; exact h⟩
      case measure => simp [intOf]; omega
    · go_wp2
      go_ret
      have hjn : j = n := by omega
      subst hjn
      exact ⟨ret_int (by have := HK.out; omega), hG, hT, hP⟩
theorem markInt64S_none (a : Option Addr) (cap : Nat) (k : Int) (w : World) : Calls Tryz.prog 73 #[.slice a 0 cap, .int .i64 k] w fun e w' => e = .returned (.int .i64 k) ∧ w = w' := by
  go_enter Tryz.func73, Tryz.ntmps73
  go_wp2_with fail
  go_loopw [1, 5] (fun kk i wr => kk = .int .i64 k ∧ i = .int .i64 0 ∧ w = wr) (fun _ _ _ => 0)
  case atStart => exact ⟨rfl, rfl, rfl⟩
  case round =>
    obtain ⟨rfl, rfl, rfl⟩ := hrel
    go_wp2
    go_ret
    exact ⟨rfl, rfl⟩
set_option maxHeartbeats 1000000 in
theorem heldInt64S_any (a : Option Addr) (n cap k0 : Nat) (w : World) (hp : IsNs w a n (mkN k0)) (hmax : n ≤ 1048576) (hk0 : k0 ≤ 6000000000000000000) :
    Calls Tryz.prog 111 #[.slice a n cap, .int .i64 (k0 : Int)] w fun e w' => e = .returned (.int .i64 ((k0 + n : Nat) : Int)) ∧ Below w.heap.size w w' := by
  have HP : Hid (IsNs w a n (mkN k0)) := hp
  clear hp
  go_enter Tryz.func111, Tryz.ntmps111
  go_wp2_with fail
  go_loopw [1, 5] (fun kk i wr => ∃ j K : Nat, j ≤ n ∧ Hid (K = k0 + j) ∧ kk = .int .i64 (K : Int) ∧ i = .int .i64 (j : Int) ∧ Below w.heap.size w wr) (fun _ i _ => n - (intOf i).toNat)
  case atStart => exact ⟨0, k0, by omega, rfl, rfl, rfl, Below.refl _ _⟩
  case round =>
    obtain ⟨j, K, hj, HK, rfl, rfl, hB⟩ := hrel
    by_cases hlt : j < n
    · rcases HP.out with h0 | ⟨b, off, rfl, hbl, hpt⟩
      · omega
      have hKb : K ≤ 6000000000002097152 := by have := HK.out; omega
      have hw : mkN k0 j = (K : Int) := by have := HK.out; simp [mkN]; omega
      have t0 : wr.cell? ⟨b, off + j, none⟩ = some (.int .i64 (mkN k0 j)) := (hB.cell (p := ⟨b, off + j, none⟩) hbl).trans (hpt j hlt)
      have HB : Hid (Below w.heap.size w wr) := hB
      clear hB hpt
      have hi : (j : Int) < (n : Int) := by omega
      have hi0 : (0 : Int) ≤ (j : Int) := by omega
      generalize mkN k0 j = x at *
      go_wp2
      go_roundw
      case rel => exact ⟨j + 1, K + 1, by omega, by have := HK.out; show _ = _; omega, by go_num, by go_num, HB.out⟩
      case measure => simp [intOf]; omega
    · go_wp2
      go_ret
      have hjn : j = n := by omega
      subst hjn
      exact ⟨ret_int (by have := HK.out; omega), hB⟩
/-- v is a list of n bytes in a block from base on. -/
def OwnN (w : World) (base : Nat) (v : Value) (n : Nat) (Z : Nat → Int) : Prop :=
  ∃ a cap, v = .slice a n cap ∧ n ≤ cap ∧ (n = 0 ∨ ∃ b, a = some ⟨b, 0, none⟩ ∧ base ≤ b ∧ b < w.heap.size ∧ NsAt w b 0 n Z ∧ There w b n)
theorem OwnN.pts {w : World} {base : Nat} {v : Value} {n : Nat} {Z : Nat → Int} (h : OwnN w base v n Z) : ∃ a cap, v = .slice a n cap ∧ n ≤ cap ∧ IsNs w a n Z := by
  obtain ⟨a, cap, hv, hc, h0 | ⟨b, ha, hb, hl, hp, ht⟩⟩ := h
  · exact ⟨a, cap, hv, hc, .inl h0⟩
  · exact ⟨a, cap, hv, hc, .inr ⟨b, 0, ha, hl, hp⟩⟩
theorem bl_cellN {w w' : World} {p : Addr} {v : Value} (hb : Below w.heap.size w w') (h : w.cell? p = some v) : w'.cell? p = some v := (hb.cell (World.block_lt_of_cell? _ _ h)).trans h
end Go.Proofs.YtciidkmonfmipaaGreat
/- Lists of numbers that grow: rows of their own. -/

namespace Go.Proofs.YtciidkmonfmipaaGreat
open Go.RowKit
set_option linter.unusedSimpArgs false
set_option linter.unusedVariables false
set_option maxRecDepth 100000

theorem info_n64 : (Tryz.prog.info? 2).map (fun i => (i.zero, i.size, i.bytes)) = some (some (.int .i64 0), 1, 8) := by kernel_rfl
/-- v is a row of its own with these numbers. -/
def RowN (base : Nat) (w : World) (v : Value) (l : List Int) : Prop := w.ownsRow base 2 1 v l.length (l.map (.int .i64 ·))
def nz (l : List Int) (i : Nat) : Int := l.getD i 0
theorem RowN.own {base : Nat} {w : World} {v : Value} {l : List Int} (h : RowN base w v l) : OwnN w base v l.length (nz l) := by
  obtain ⟨h1, h2 | ⟨g, cp, cur, hv, hg, hh, hkc, hcm, hcs, htk⟩⟩ := id h
  · obtain ⟨rfl, h0⟩ := h2
    rw [h0]
    exact ⟨none, 0, rfl, Nat.le_refl _, .inl rfl⟩
  · have hgl : g < w.heap.size := by
      rcases Nat.lt_or_ge g w.heap.size with h' | h'
      · exact h'
      · rw [Array.getElem?_eq_none h'] at hh; cases hh
    have hrow : w.ownsRow base 2 1 (.slice (some ⟨g, 0, none⟩) l.length cp) l.length (l.map (.int .i64 ·)) := ⟨h1, .inr ⟨g, cp, cur, rfl, hg, hh, hkc, hcm, hcs, htk⟩⟩
    refine ⟨some ⟨g, 0, none⟩, cp, hv, hkc, .inr ⟨g, rfl, hg, hgl, fun i hi => ?_, fun o ho => ⟨?_, hrow.frozenAt o⟩⟩⟩
    · rw [Nat.zero_add, hrow.cellAt i (by omega), List.getElem?_map]
      simp [nz, List.getD_eq_getElem?_getD, hi]
    · rw [hrow.cellAt o (by omega), List.getElem?_map]
      simp [ho]
theorem RowN.below {base : Nat} {w w' : World} {v : Value} {l : List Int} (h : RowN base w v l) (hb : Below w.heap.size w w') : RowN base w' v l := by
  obtain ⟨h1, h2 | ⟨g, cp, cur, hv, hg, hh, hr⟩⟩ := h
  · exact ⟨h1, .inl h2⟩
  · refine ⟨h1, .inr ⟨g, cp, cur, hv, hg, ?_, hr⟩⟩
    have hgl : g < w.heap.size := by
      rcases Nat.lt_or_ge g w.heap.size with h' | h'
      · exact h'
      · rw [Array.getElem?_eq_none h'] at hh; cases hh
    rw [hb.block g hgl]
    exact hh
theorem RowN.no (base : Nat) (w : World) : RowN base w (.slice none 0 0) [] := World.ownsRow_nil _ _ _ _
theorem RowN.wide {base B : Nat} {w : World} {v : Value} {l : List Int} (h : RowN base w v l) (hB : B ≤ base) : RowN B w v l := by
  obtain ⟨h1, h2 | ⟨g, cp, cur, hv, hg, hr⟩⟩ := h
  · exact ⟨h1, .inl h2⟩
  · exact ⟨h1, .inr ⟨g, cp, cur, hv, by omega, hr⟩⟩
theorem RowN.other {base r o : Nat} {w : World} {v u : Value} {l : List Int} (h : RowN base w v l) (hr : r < base) : RowN base (w.setCell ⟨r, o, none⟩ u) v l := by
  obtain ⟨h1, h2 | ⟨g, cp, cur, hv, hg, hh, hr'⟩⟩ := h
  · exact ⟨h1, .inl h2⟩
  · exact ⟨h1, .inr ⟨g, cp, cur, hv, hg, by rw [Below.heap_setCell _ _ _ _ (by simp; omega)]; exact hh, hr'⟩⟩
end Go.Proofs.YtciidkmonfmipaaGreat
/- Rasters: what is wrong of one, which ref lies in which: the program and the model. -/

namespace Go.Proofs.YtciidkmonfmipaaGreat
open Go.RowKit
set_option linter.unusedSimpArgs false
set_option linter.unusedVariables false
set_option maxRecDepth 100000

theorem set3_atq {W : World} {r : Nat} {a b c : Value} (hT : There W r 3) :
    (((W.setCell ⟨r, 0, none⟩ a).setCell ⟨r, 1, none⟩ b).setCell ⟨r, 2, none⟩ c).cell? ⟨r, 0, none⟩ = some a ∧
    (((W.setCell ⟨r, 0, none⟩ a).setCell ⟨r, 1, none⟩ b).setCell ⟨r, 2, none⟩ c).cell? ⟨r, 1, none⟩ = some b ∧
    (((W.setCell ⟨r, 0, none⟩ a).setCell ⟨r, 1, none⟩ b).setCell ⟨r, 2, none⟩ c).cell? ⟨r, 2, none⟩ = some c := by
  obtain ⟨x0, h0⟩ := (hT 0 (by omega)).1
  obtain ⟨x1, h1⟩ := (hT 1 (by omega)).1
  obtain ⟨x2, h2⟩ := (hT 2 (by omega)).1
  have ne : ∀ i j : Nat, i ≠ j → (⟨r, i, none⟩ : Addr) ≠ ⟨r, j, none⟩ := fun i j hij h => hij (by injection h)
  refine ⟨?_, ?_, ?_⟩
  · rw [set1_other (ne 2 0 (by omega)), set1_other (ne 1 0 (by omega))]; exact set1_same h0
  · rw [set1_other (ne 2 1 (by omega))]; exact set1_same (by rw [set1_other (ne 0 1 (by omega))]; exact h1)
  · exact set1_same (by rw [set1_other (ne 1 2 (by omega)), set1_other (ne 0 2 (by omega))]; exact h2)
end Go.Proofs.YtciidkmonfmipaaGreat
/- A raster is filled, row by row, by what a function has at a pixel: the program. -/

namespace Go.Proofs.YtciidkmonfmipaaGreat
open Go.RowKit
set_option linter.unusedSimpArgs false
set_option linter.unusedVariables false
set_option maxRecDepth 100000

/-- What G has at the pixels of a window, row by row. -/
def rowsL (G : Int → Int → Int) (x y : Int) (wide high : Nat) : List Int := (List.range high).flatMap fun (r : Nat) => (List.range wide).map fun (c : Nat) => G (x + (c : Int)) (y + (r : Int))
def rowsP (G : Int → Int → Int) (x y : Int) (wide r c : Nat) : List Int := rowsL G x y wide r ++ (List.range c).map fun (c : Nat) => G (x + (c : Int)) (y + (r : Int))
theorem rowsL_len (G : Int → Int → Int) (x y : Int) (wide : Nat) : ∀ high, (rowsL G x y wide high).length = high * wide
  | 0 => by simp [rowsL]
  | h + 1 => by
    have := rowsL_len G x y wide h
    unfold rowsL at this ⊢
    rw [List.range_succ, List.flatMap_append, List.length_append, this]
    simp
    rw [Nat.add_mul]; omega
theorem rowsP_next (G : Int → Int → Int) (x y : Int) (wide r c : Nat) : rowsP G x y wide r (c + 1) = rowsP G x y wide r c ++ [G (x + (c : Int)) (y + (r : Int))] := by
  simp [rowsP, List.range_succ]
theorem rowsP_full (G : Int → Int → Int) (x y : Int) (wide r : Nat) : rowsP G x y wide r wide = rowsL G x y wide (r + 1) := by
  simp [rowsP, rowsL, List.range_succ]
theorem rowsP_zero (G : Int → Int → Int) (x y : Int) (wide r : Nat) : rowsP G x y wide r 0 = rowsL G x y wide r := by simp [rowsP]
theorem rowsP_len (G : Int → Int → Int) (x y : Int) (wide r c : Nat) : (rowsP G x y wide r c).length = r * wide + c := by
  simp [rowsP, rowsL_len]
set_option maxHeartbeats 4000000 in
theorem rowByRow_any (f : Nat) (caps : Array Value) (x y : Int) (wide high : Nat) (G : Int → Int → Int) (w : World) (hwide : wide ≤ 8) (hhigh : high ≤ 8) (hx : 0 ≤ x ∧ x ≤ 1000) (hy : 0 ≤ y ∧ y ≤ 1000) (hce : ∀ args w, (callFunc f args).run Tryz.prog w = .ok (.enter f args) w)
    (hF : ∀ W c r, Below w.heap.size w W → c < wide → r < high → Calls Tryz.prog f (#[.int .i64 (x + (c : Nat)), .int .i64 (y + (r : Nat))] ++ caps) W fun e W' => e = .returned (.int .i64 (G (x + (c : Nat)) (y + (r : Nat)))) ∧ Below W.heap.size W W') :
    Calls Tryz.prog 98 #[.int .i64 x, .int .i64 y, .int .i64 (wide : Int), .int .i64 (high : Int), .func (.func f) #[] caps] w fun e w' => ∃ v, e = .returned v ∧ RowN w.heap.size w' v (rowsL G x y wide high) ∧ Below w.heap.size w w' := by
  obtain ⟨i0, hi, hz0, hz1, hz2⟩ := info_parts info_n64
  have HF := (show Hid _ from hF)
  clear hF
  go_enter Tryz.func98, Tryz.ntmps98
  go_wp2_with fail
  go_loopw [11, 15] (fun v j wr => ∃ r : Nat, r ≤ high ∧ j = .int .i64 ((r : Nat) : Int) ∧ RowN w.heap.size wr v (rowsL G x y wide r) ∧ Below w.heap.size w wr) (fun _ j _ => high - (intOf j).toNat)
  case atStart => exact ⟨0, by omega, rfl, RowN.no _ _, Below.refl _ _⟩
  case round =>
    obtain ⟨r, hr, rfl, hO, hB⟩ := hrel
    have HO0 : Hid (RowN w.heap.size wr u11 (rowsL G x y wide r)) := hO
    have HB0 : Hid (Below w.heap.size w wr) := hB
    clear hO hB
    by_cases hlt : r < high
    · have hi' : (r : Int) < (high : Int) := by omega
      go_wp2_with fail
      go_loopw [11, 19] (fun v j wr => ∃ m : Nat, m ≤ wide ∧ j = .int .i64 (m : Int) ∧ RowN w.heap.size wr v (rowsP G x y wide r m) ∧ Below w.heap.size w wr) (fun _ j _ => wide - (intOf j).toNat)
      case atStart => exact ⟨0, by omega, rfl, by rw [rowsP_zero]; exact HO0.out, HB0.out⟩
      case round =>
        obtain ⟨m, hm, rfl, hO, hB⟩ := hrel
        have HO : Hid (RowN w.heap.size wr u11 (rowsP G x y wide r m)) := hO
        have HB : Hid (Below w.heap.size w wr) := hB
        have hszr : w.heap.size ≤ wr.heap.size := hB.size
        clear hO hB HO0 HB0
        by_cases hlm : m < wide
        · have hm' : (m : Int) < (wide : Int) := by omega
          have HC : Hid (Calls Tryz.prog f (#[.int .i64 (x + (m : Nat)), .int .i64 (y + (r : Nat))] ++ caps) wr fun e W' => e = .returned (.int .i64 (G (x + (m : Nat)) (y + (r : Nat)))) ∧ Below wr.heap.size wr W') := HF.out wr m r HB.out hlm hlt
          have HS : Hid (rowsP G x y wide r (m + 1) = rowsP G x y wide r m ++ [G (x + (m : Int)) (y + (r : Int))]) := rowsP_next _ _ _ _ _ _
          have HL : Hid ((rowsP G x y wide r m).length ≤ 64) := by
            show _ ≤ _
            rw [rowsP_len]
            have : r * wide ≤ 7 * 8 := Nat.mul_le_mul (by omega) hwide
            omega
          go_wp2_with fail
          refine Calls.mono HC.out ?_
          rintro e w2 ⟨rfl, hb2⟩
          have HO2 : Hid (RowN w.heap.size w2 u11 (rowsP G x y wide r m)) := HO.out.below hb2
          have HB2 : Hid (Below w.heap.size w w2) := bl_then HB.out hb2
          have hsz2 : w.heap.size ≤ w2.heap.size := Nat.le_trans hszr hb2.size
          clear HC hb2 HO HB
          generalize G (x + (m : Int)) (y + (r : Int)) = g at *
          have hlen := HL.out
          have hblk : ∀ b, u11.ownBlock = some b → w.heap.size ≤ b := fun b hb => (World.ownsRow.lt HO2.out b hb).1
          have HR : Hid (∀ w' v', w'.ownsRow w.heap.size 2 1 v' ((rowsP G x y wide r m).length + 1) ((rowsP G x y wide r m).map (.int .i64 ·) ++ [.int .i64 g]) → RowN w.heap.size w' v' (rowsP G x y wide r (m + 1))) := fun w' v' h => by
            rw [HS.out]
            show World.ownsRow _ _ _ _ _ _ _
            rw [List.length_append, List.map_append]
            exact h
          clear HS HL
          go_wp2_with (first
            | (at_builtin; go_must (refine wpList_append_own _ rfl _ _ 66 rfl w.heap.size 2 i0 (.int .i64 0) 1 8 Tryz.underlying66 hi hz0 hz1 hz2 rfl (by decide) _ (rowsP G x y wide r m).length ((rowsP G x y wide r m).map (.int .i64 ·)) rfl (World.ownsRow.alloc HO2.out _) ⟨w2.heap.size, 0, none⟩ 1 1 [.int .i64 g] rfl rfl ?c1 ?c2 ?c3 ?c4 ?c5 ?_)))
          case c1 =>
            intro q u hq
            match q, hq with
            | 0, hq => simp at hq; subst hq; simp [Addr.add, go_sem]
            | q + 1, hq => simp at hq
          case c2 => intro u hu; simp at hu; subst hu; rfl
          case c3 => unfold maxLen; omega
          case c4 => omega
          case c5 => simp; omega
          intro v' w3 hown' hgrow hnil
          clear hnil
          generalize hV : (w2.alloc _ : World) = V at hgrow
          have hBV : Below w2.heap.size w2 V := by subst hV; (repeat (first | exact Below.refl _ _ | assumption | refine Below.drew ?_ | refine bl_alloc ?_ _ | refine bl_then ?_ (by assumption) | refine Below.setCell ?_ (by first | omega | (simp; done) | (simp; omega)) _ | refine bl_store ?_ ?_ _ _))
          have hBg : Below w.heap.size V w3 := (Below.refl _ _).grown hgrow (by have := hBV.size; omega) (fun k hk => hblk k hk)
          have HB3 : Hid (Below w.heap.size w w3) := HB2.out.trans ((hBV.mono hsz2).trans hBg)
          have HO3 : Hid (RowN w.heap.size w3 v' (rowsP G x y wide r (m + 1))) := HR.out _ _ hown'
          clear hown' hgrow hBg hBV hV HO2 HB2 HR hblk
          go_wp2
          go_roundw
          case rel => exact ⟨m + 1, by omega, by go_num, HO3.out, HB3.out⟩
          case measure => simp [intOf]; omega
        · have hmw : m = wide := by omega
          subst hmw
          rw [rowsP_full] at HO
          go_wp2_with fail
          go_roundw
          case rel => exact ⟨r + 1, by omega, by go_num, HO.out, HB.out⟩
          case measure => simp [intOf]; omega
    · have hrh : r = high := by omega
      subst hrh
      obtain ⟨av, cv, hvs, _, _⟩ := HO0.out.own
      have HV : Hid (∃ nv, u11 = .slice av nv cv) := ⟨_, hvs⟩
      go_wp2
      go_ret
      exact ⟨_, rfl, HO0.out, HB0.out⟩
end Go.Proofs.YtciidkmonfmipaaGreat
/- The raster of a tile as far as that of one above it has it: the program. -/

namespace Go.Proofs.YtciidkmonfmipaaGreat
open Go.RowKit
set_option linter.unusedSimpArgs false
set_option linter.unusedVariables false
set_option maxRecDepth 100000

set_option maxHeartbeats 2000000 in
theorem raster_any (f : Nat) (caps : Array Value) (z x y : Int) (G : Int → Int → Int) (w : World) (h : refB z x y = true) (hce : ∀ args w, (callFunc f args).run Tryz.prog w = .ok (.enter f args) w)
    (hF : ∀ W c r, Below w.heap.size w W → c < 8 → r < 8 → Calls Tryz.prog f (#[.int .i64 (x * 8 + (c : Nat)), .int .i64 (y * 8 + (r : Nat))] ++ caps) W fun e W' => e = .returned (.int .i64 (G (x * 8 + (c : Nat)) (y * 8 + (r : Nat)))) ∧ Below W.heap.size W W') :
    Calls Tryz.prog 65 #[refV z x y, .func (.func f) #[] caps] w fun e w' => ∃ v, e = .returned v ∧ RowN w.heap.size w' v (rowsL G (x * 8) (y * 8) 8 8) ∧ Below w.heap.size w w' := by
  obtain ⟨⟨z0, z1⟩, ⟨x0, x1⟩, y0, y1⟩ := ref_bd h
  have HF := (show Hid _ from hF)
  have HE := (show Hid _ from hce)
  clear hF hce h
  go_enter Tryz.func65, Tryz.ntmps65
  go_wp2_with fail
  generalize hW : (w.alloc _ : World) = W
  have hB0 : Below w.heap.size w W := by subst hW; (repeat (first | exact Below.refl _ _ | assumption | refine Below.drew ?_ | refine bl_alloc ?_ _ | refine bl_then ?_ (by assumption) | refine Below.setCell ?_ (by first | omega | (simp; done) | (simp; omega)) _ | refine bl_store ?_ ?_ _ _))
  clear hW
  refine (rowByRow_any f caps (x * 8) (y * 8) 8 8 G W (Nat.le_refl _) (Nat.le_refl _) (by omega) (by omega) HE.out (fun W' c r hb hc hr => HF.out W' c r (bl_then hB0 hb) hc hr)).mono ?_
  rintro e w' ⟨v, rfl, hO, hb⟩
  have HB : Hid (Below w.heap.size w w') := bl_then hB0 hb
  have HO : Hid (RowN w.heap.size w' v (rowsL G (x * 8) (y * 8) 8 8)) := hO.wide hB0.size
  clear hO hb hB0
  go_wp2_with fail
  go_ret
  exact ⟨_, rfl, HO.out, HB.out⟩
end Go.Proofs.YtciidkmonfmipaaGreat
/- The first of a list of codes that is not 0. -/

namespace Go.Proofs.YtciidkmonfmipaaGreat
/-- The first that is not 0. -/
def scanC (c : Nat → Int) : Nat → Nat → Int
  | _, 0 => 0
  | i, k + 1 => if c i ≠ 0 then c i else scanC c (i + 1) k
theorem scan_first (c : Nat → Int) : ∀ (m i k : Nat), (∀ j, i ≤ j → j < k → c j = 0) → i ≤ k → k < i + m → c k ≠ 0 → scanC c i m = c k
  | 0, i, k, _, h1, h2, _ => by omega
  | m + 1, i, k, h, h1, h2, hne => by
    rw [scanC]
    by_cases e : i = k
    · subst e; rw [if_pos hne]
    · rw [if_neg (by rw [h i (Nat.le_refl _) (by omega)]; simp)]
      exact scan_first c m (i + 1) k (fun j hj => h j (by omega)) (by omega) (by omega) hne
theorem scan_none (c : Nat → Int) : ∀ (m i : Nat), (∀ j, i ≤ j → j < i + m → c j = 0) → scanC c i m = 0
  | 0, _, _ => rfl
  | m + 1, i, h => by
    rw [scanC, if_neg (by rw [h i (Nat.le_refl _) (by omega)]; simp)]
    exact scan_none c m (i + 1) (fun j hj hj' => h j (by omega) (by omega))
theorem scan_congr (c d : Nat → Int) : ∀ (m i : Nat), (∀ j, i ≤ j → j < i + m → c j = d j) → scanC c i m = scanC d i m
  | 0, _, _ => rfl
  | m + 1, i, h => by
    rw [scanC, scanC, h i (Nat.le_refl _) (by omega), scan_congr c d m (i + 1) (fun j hj hj' => h j (by omega) (by omega))]
theorem scan_zero (c : Nat → Int) : ∀ (m i : Nat), scanC c i m = 0 → ∀ j, i ≤ j → j < i + m → c j = 0
  | 0, i, _, j, h1, h2 => by omega
  | m + 1, i, h, j, h1, h2 => by
    rw [scanC] at h
    by_cases hc : c i ≠ 0
    · rw [if_pos hc] at h; exact absurd h hc
    · rw [if_neg hc] at h
      by_cases e : j = i
      · subst e; simpa using hc
      · exact scan_zero c m (i + 1) h j (by omega) (by omega)
end Go.Proofs.YtciidkmonfmipaaGreat
