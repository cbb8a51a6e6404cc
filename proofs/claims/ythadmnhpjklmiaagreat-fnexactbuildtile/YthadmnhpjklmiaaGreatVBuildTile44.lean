/- Several texts in one. -/
import Derived.Test.YthadmnhpjklmiaaGreatVBuildTile43
import Derived.Test.YthadmnhpjklmiaaGreatRows
import Derived.Test.YthadmnhpjklmiaaGreatVBuildTile1
import Derived.WalkKit
import Derived.WalkSpells
import Derived.WalkLawsBesides
import Derived.Outline
import Derived.Deep.RegionHeld3
import Derived.Deep.OwnRows
import Derived.Deep.LoopGhost
import Derived.Laws.OwnMore
import Derived.Test.YthadmnhpjklmiaaGreatVBuildTile40
import Derived.Test.YthadmnhpjklmiaaGreatVBuildTile6
import Derived.Test.YthadmnhpjklmiaaGreatVBuildTile7
import Derived.Test.YthadmnhpjklmiaaGreatVBuildTile5
import Derived.Deep.DeepCutAuto

/- BuildTile of the model. -/

namespace Go.Proofs.YthadmnhpjklmiaaGreat
open Go.RowKit
set_option linter.unusedSimpArgs false
set_option linter.unusedVariables false
set_option maxRecDepth 100000

/-- What is told with a code. -/
theorem bsAns_no {C z x y : Int} {n : Nat} {G : Nat → Feat} {a b c : Int} {w w' : World} {e : Ending} (hC : btC z x y n G = C) (h0 : C ≠ 0) (he : e = .returned (trV C 0 0 0 (.slice none 0 0))) (hb : Below w.heap.size w w') :
    BsAns (btC z x y n G) (btK z x y n G a) (btK z x y n G b) (btK z x y n G c) (btM z x y n G) (btG z x y n G) w e w' := by
  have hn : btC z x y n G ≠ 0 := by rw [hC]; exact h0
  have hm : btM z x y n G = 0 := by unfold btM; rw [if_neg hn]
  have hk : ∀ v, btK z x y n G v = 0 := fun v => by unfold btK; rw [if_neg hn]
  rw [hm, hk, hk, hk, hC]
  exact ⟨none, 0, G, he, .inl rfl, fun i hi => absurd hi (Nat.not_lt_zero _), Nat.le_refl _, hb⟩
set_option maxHeartbeats 8000000 in
theorem spec_BuildTile_any (z x y : Int) (b n cap : Nat) (G : Nat → Feat) (w : World) (hg : FsAt w b 0 n G) (hbl : b < w.heap.size) (hs : SmallFs n G) :
    Calls Tryz.prog 6 #[.slice (some ⟨b, 0, none⟩) n cap, refV z x y] w (BsAns (btC z x y n G) (btK z x y n G z) (btK z x y n G x) (btK z x y n G y) (btM z x y n G) (btG z x y n G) w) := by
  have HG : Hid (FsAt w b 0 n G) := hg
  have HS : Hid (SmallFs n G) := hs
  have HC0 : Hid (refB z x y = false → btC z x y n G = 3) := fun hr => by unfold btC; rw [hr]; rfl
  have HC1 : Hid (refB z x y = true → btC z x y n G = featsC n G) := fun hr => by unfold btC; rw [hr]; rfl
  clear hg hs
  go_enter Tryz.func6, Tryz.ntmps6
  go_wp2_with fail
  generalize hW : ((w.alloc _).alloc _ : World) = W
  have HB0 : Hid (Below w.heap.size w W) := by show Below _ _ _; subst hW; (repeat (first | exact Below.refl _ _ | assumption | refine Below.drew ?_ | refine bl_alloc ?_ _ | refine bl_then ?_ (by assumption) | refine Below.setCell ?_ (by first | omega | (simp; done) | (simp; omega)) _ | refine bl_store ?_ ?_ _ _))
  have hlW : W.heap.size = w.heap.size + 2 := by subst hW; simp
  have HT : Hid (There W (w.heap.size + 1) 5) := by
    show There _ _ _
    subst hW
    have := there5b (w.alloc (.cells #[.int .i64 z, .int .i64 x, .int .i64 y] 26)) (.int .i64 0) (.int .i64 0) (.int .i64 0) (.int .i64 0) (.slice none 0 0) 31
    simpa using this
  have HC : Hid (∀ W', Below W.heap.size W W' → W'.cell? ⟨w.heap.size, 0, none⟩ = some (.int .i64 z) ∧ W'.cell? ⟨w.heap.size, 1, none⟩ = some (.int .i64 x) ∧ W'.cell? ⟨w.heap.size, 2, none⟩ = some (.int .i64 y)) := fun W' h => by
    refine ⟨?_, ?_, ?_⟩ <;> (rw [h.cell (by simp; omega)]; subst hW; simp [go_sem])
  clear hW
  refine (l7Fault_any z x y _).mono ?_
  rintro e w1 ⟨rfl, hb1⟩
  have hT1 := HT.out.below hb1
  have HT1 : Hid (There w1 (w.heap.size + 1) 5) := hT1
  have HB1 : Hid (Below w.heap.size w w1) := bl_then HB0.out hb1
  have HW1 : Hid (Below W.heap.size W w1) := hb1
  have hle : w.heap.size ≤ w.heap.size + 1 := Nat.le_succ _
  clear hb1
  rcases refC_cases z x y with ⟨hrc, hrb⟩ | ⟨hrc, hrb⟩
  · rw [hrc]
    have HRB : Hid (refB z x y = true) := hrb
    clear hrc hrb hT1
    go_wp2_with fail
    refine (l2Many_any b n cap G _ (HG.out.below HB1.out hbl) (Nat.lt_of_lt_of_le hbl HB1.out.size) HS.out).mono ?_
    rintro e w2 ⟨rfl, hb2⟩
    have hT2 := HT1.out.below hb2
    have HT2 : Hid (There w2 (w.heap.size + 1) 5) := hT2
    have HB2 : Hid (Below w.heap.size w w2) := bl_then HB1.out hb2
    have hW2 : Below W.heap.size W w2 := bl_then HW1.out hb2
    obtain ⟨z0, z1, z2⟩ := HC.out _ hW2
    have hs2 := hW2.size
    clear hb2
    by_cases hf : featsC n G = 0
    · have HLB := (show Hid _ from l7Build_any z x y b n cap G w2 (HG.out.below HB2.out hbl) (Nat.lt_of_lt_of_le hbl HB2.out.size) HS.out hf HRB.out)
      have HZ : Hid (btC z x y n G = 0) := (HC1.out HRB.out).trans hf
      rw [hf]
      clear hf hT2
      go_wp2_with fail
      refine Calls.mono HLB.out ?_
      rintro e w3 ⟨a, c, T, rfl, hS, hsam, hc, hb3⟩
      have hT3 := HT2.out.below hb3
      have HT3 : Hid (There w3 (w.heap.size + 1) 5) := hT3
      have HB3 : Hid (Below w.heap.size w w3) := bl_then HB2.out hb3
      have HSR := (show Hid (SrcB w2.heap.size w3.heap.size w3 a (chs z x y n G).length T) from hS)
      have HSA := (show Hid (∀ i, i < (chs z x y n G).length → (T i).same (btG z x y n G i)) from hsam)
      have t0 := hT3.cell 0 (by omega)
      have t1 := hT3.cell 1 (by omega)
      have t2 := hT3.cell 2 (by omega)
      have t3 := hT3.cell 3 (by omega)
      have t4 := hT3.cell 4 (by omega)
      have f0 := (hT3 0 (by omega)).2
      have f1 := (hT3 1 (by omega)).2
      have f2 := (hT3 2 (by omega)).2
      have f3 := (hT3 3 (by omega)).2
      have f4 := (hT3 4 (by omega)).2
      clear hb3 hT3 hS hsam z0 z1 z2 HLB
      go_wp2_with fail
      obtain ⟨q0, q1, q2, q3, q4⟩ := set5_at (a := .int .i64 0) (b := .int .i64 z) (c := .int .i64 x) (d := .int .i64 y) (e := .slice a (chs z x y n G).length c) HT3.out
      refine bodyPost_ret (v := .agg #[.int .i64 0, .int .i64 z, .int .i64 x, .int .i64 y, .slice a (chs z x y n G).length c]) (by simp [results, Tryz.results6, go_sem, q0, q1, q2, q3, q4]) rfl ?_
      have hm : btM z x y n G = (chs z x y n G).length := by unfold btM; rw [if_pos HZ.out]
      have hk : ∀ v, btK z x y n G v = v := fun v => by unfold btK; rw [if_pos HZ.out]
      rw [hm, hk, hk, hk, HZ.out]
      refine ⟨a, c, T, rfl, ?_, HSA.out, hc, ((((HB3.out.setCell hle _).setCell hle _).setCell hle _).setCell hle _).setCell hle _⟩
      have h := (HSR.out.set5 (r := w.heap.size + 1) (v0 := .int .i64 0) (v1 := .int .i64 z) (v2 := .int .i64 x) (v3 := .int .i64 y) (v4 := .slice a (chs z x y n G).length c) (by omega)).wide HB2.out.size
      simpa using h
    · have hcb : (featsC n G == 0) = false := by simpa using hf
      have HCC : Hid (btC z x y n G = featsC n G) := HC1.out HRB.out
      have HNZ : Hid (featsC n G ≠ 0) := hf
      have t0 := hT2.cell 0 (by omega)
      have t1 := hT2.cell 1 (by omega)
      have t2 := hT2.cell 2 (by omega)
      have t3 := hT2.cell 3 (by omega)
      have t4 := hT2.cell 4 (by omega)
      have f0 := (hT2 0 (by omega)).2
      have f1 := (hT2 1 (by omega)).2
      have f2 := (hT2 2 (by omega)).2
      have f3 := (hT2 3 (by omega)).2
      have f4 := (hT2 4 (by omega)).2
      clear hf hT2 z0 z1 z2
      generalize hfc : featsC n G = fc at *
      go_wp2_with fail
      obtain ⟨q0, q1, q2, q3, q4⟩ := set5_at (a := .int .i64 fc) (b := .int .i64 0) (c := .int .i64 0) (d := .int .i64 0) (e := .slice none 0 0) HT2.out
      exact bodyPost_ret (v := .agg #[.int .i64 fc, .int .i64 0, .int .i64 0, .int .i64 0, .slice none 0 0]) (by simp [results, Tryz.results6, go_sem, q0, q1, q2, q3, q4]) rfl (bsAns_no HCC.out HNZ.out rfl (((((HB2.out.setCell hle _).setCell hle _).setCell hle _).setCell hle _).setCell hle _))
  · rw [hrc]
    have HCC : Hid (btC z x y n G = 3) := HC0.out hrb
    have t0 := hT1.cell 0 (by omega)
    have t1 := hT1.cell 1 (by omega)
    have t2 := hT1.cell 2 (by omega)
    have t3 := hT1.cell 3 (by omega)
    have t4 := hT1.cell 4 (by omega)
    have f0 := (hT1 0 (by omega)).2
    have f1 := (hT1 1 (by omega)).2
    have f2 := (hT1 2 (by omega)).2
    have f3 := (hT1 3 (by omega)).2
    have f4 := (hT1 4 (by omega)).2
    clear hrc hrb hT1
    go_wp2_with fail
    obtain ⟨q0, q1, q2, q3, q4⟩ := set5_at (a := .int .i64 3) (b := .int .i64 0) (c := .int .i64 0) (d := .int .i64 0) (e := .slice none 0 0) HT1.out
    exact bodyPost_ret (v := .agg #[.int .i64 3, .int .i64 0, .int .i64 0, .int .i64 0, .slice none 0 0]) (by simp [results, Tryz.results6, go_sem, q0, q1, q2, q3, q4]) rfl (bsAns_no HCC.out (by decide) rfl (((((HB1.out.setCell hle _).setCell hle _).setCell hle _).setCell hle _).setCell hle _))
end Go.Proofs.YthadmnhpjklmiaaGreat
/- Numbers in memory of their own: they are compared, marked, and the marks are found again. -/

namespace Go.Proofs.YthadmnhpjklmiaaGreat
open Go.RowKit
set_option linter.unusedSimpArgs false
set_option linter.unusedVariables false
set_option maxRecDepth 100000

def IsNs (w : World) (a : Option Addr) (n : Nat) (Z : Nat → Int) : Prop :=
  n = 0 ∨ ∃ b off, a = some ⟨b, off, none⟩ ∧ b < w.heap.size ∧ ∀ i, i < n → w.cell? ⟨b, off + i, none⟩ = some (.int .i64 (Z i))
theorem IsNs.below {w w' : World} {a : Option Addr} {n : Nat} {Z : Nat → Int} (h : IsNs w a n Z) (hb : Below w.heap.size w w') : IsNs w' a n Z := by
  rcases h with h | ⟨b, off, e, hl, hz⟩
  · exact .inl h
  · exact .inr ⟨b, off, e, Nat.lt_of_lt_of_le hl hb.size, fun i hi => (hb.cell (p := ⟨b, off + i, none⟩) hl).trans (hz i hi)⟩
def NsAt (w : World) (b off n : Nat) (Z : Nat → Int) : Prop := ∀ i, i < n → w.cell? ⟨b, off + i, none⟩ = some (.int .i64 (Z i))
theorem NsAt.below {w w' : World} {b off n B : Nat} {Z : Nat → Int} (h : NsAt w b off n Z) (hb : Below B w w') (hB : b < B) : NsAt w' b off n Z := fun i hi => (hb.cell (p := ⟨b, off + i, none⟩) hB).trans (h i hi)
theorem NsAt.is {w : World} {b off n : Nat} {Z : Nat → Int} (h : NsAt w b off n Z) (hb : b < w.heap.size) : IsNs w (some ⟨b, off, none⟩) n Z := .inr ⟨b, off, rfl, hb, h⟩
theorem There.setN {W : World} {r n : Nat} (h : There W r n) (o : Nat) (v : Value) : There (W.setCell ⟨r, o, none⟩ v) r n := fun o' ho => by
  obtain ⟨u, hu⟩ := (h o' ho).1
  refine ⟨?_, ?_⟩
  · by_cases e : o = o'
    · subst e
      exact ⟨v, World.cell?_setCell_same _ _ _ (by rw [hu])⟩
    · exact ⟨u, by rw [World.cell?_setCell_other]; exact hu; simp [e]⟩
  · rw [World.frozen?_setCell]; exact (h o' ho).2
theorem fillN {W : World} {B n k : Nat} {Z : Nat → Int} (hT : There W B n) (hk : k < n) (hp : NsAt W B 0 k Z) : NsAt (W.setCell ⟨B, k, none⟩ (.int .i64 (Z k))) B 0 (k + 1) Z := fun i hi => by
  by_cases e : i = k
  · subst e
    obtain ⟨u, hu⟩ := (hT i hk).1
    simpa using World.cell?_setCell_same _ _ _ (by rw [hu])
  · rw [World.cell?_setCell_other]
    · exact hp i (by omega)
    · simp <;> omega
theorem grown_setN {w w' : World} {b : Nat} (h : w.grownBy w' (some b)) (o : Nat) (v : Value) : w.grownBy (w'.setCell ⟨b, o, none⟩ v) (some b) := by
  have hb : Below b w' (w'.setCell ⟨b, o, none⟩ v) := (Below.refl b w').setCell (Nat.le_refl _) v
  exact ⟨hb.os.trans h.os, hb.tape.trans h.tape, hb.output.trans h.output, Nat.le_trans h.size hb.size, fun k hk hne => (Below.heap_setCell w' ⟨b, o, none⟩ v k (fun e => hne (by simp at e; rw [e]))).trans (h.block k hk hne)⟩
theorem grown_reflN (w : World) (row : Option Nat) : w.grownBy w row := ⟨rfl, rfl, rfl, Nat.le_refl _, fun _ _ _ => rfl⟩
/-- The marks from k0 on. -/
def mkN (k0 i : Nat) : Int := ((k0 + i : Nat) : Int)
/-- v is a list of n bytes in a block from base on. -/
def OwnN (w : World) (base : Nat) (v : Value) (n : Nat) (Z : Nat → Int) : Prop :=
  ∃ a cap, v = .slice a n cap ∧ n ≤ cap ∧ (n = 0 ∨ ∃ b, a = some ⟨b, 0, none⟩ ∧ base ≤ b ∧ b < w.heap.size ∧ NsAt w b 0 n Z ∧ There w b n)
theorem OwnN.below {w w' : World} {base : Nat} {v : Value} {n : Nat} {Z : Nat → Int} (h : OwnN w base v n Z) (hb : Below w.heap.size w w') : OwnN w' base v n Z := by
  obtain ⟨a, cap, hv, hc, h0 | ⟨b, ha, hbb, hl, hp, ht⟩⟩ := h
  · exact ⟨a, cap, hv, hc, .inl h0⟩
  · exact ⟨a, cap, hv, hc, .inr ⟨b, ha, hbb, Nat.lt_of_lt_of_le hl hb.size, hp.below hb hl, ht.below hb⟩⟩
theorem OwnN.pts {w : World} {base : Nat} {v : Value} {n : Nat} {Z : Nat → Int} (h : OwnN w base v n Z) : ∃ a cap, v = .slice a n cap ∧ n ≤ cap ∧ IsNs w a n Z := by
  obtain ⟨a, cap, hv, hc, h0 | ⟨b, ha, hb, hl, hp, ht⟩⟩ := h
  · exact ⟨a, cap, hv, hc, .inl h0⟩
  · exact ⟨a, cap, hv, hc, .inr ⟨b, 0, ha, hl, hp⟩⟩
theorem OwnN.is {w : World} {base : Nat} {a : Option Addr} {n cap : Nat} {Z : Nat → Int} (h : OwnN w base (.slice a n cap) n Z) : IsNs w a n Z := by
  obtain ⟨a', cap', hv, hc, hi⟩ := h.pts
  injection hv with h1 h2 h3
  subst h1
  exact hi
/-- Bytes that lie below block T. -/
def UnderN (T : Nat) (w : World) (a : Option Addr) (n : Nat) (Z : Nat → Int) : Prop := n = 0 ∨ ∃ b off, a = some ⟨b, off, none⟩ ∧ b < T ∧ NsAt w b off n Z
theorem UnderN.is {T : Nat} {w : World} {a : Option Addr} {n : Nat} {Z : Nat → Int} (h : UnderN T w a n Z) (hT : T ≤ w.heap.size) : IsNs w a n Z := by
  rcases h with h | ⟨b, off, e, hl, hp⟩
  · exact .inl h
  · exact .inr ⟨b, off, e, by omega, hp⟩
theorem UnderN.below {T B : Nat} {w w' : World} {a : Option Addr} {n : Nat} {Z : Nat → Int} (h : UnderN T w a n Z) (hb : Below B w w') (hB : T ≤ B) : UnderN T w' a n Z := by
  rcases h with h | ⟨b, off, e, hl, hp⟩
  · exact .inl h
  · exact .inr ⟨b, off, e, hl, hp.below hb (by omega)⟩
theorem UnderN.row {T : Nat} {row : Option Nat} {w w' : World} {a : Option Addr} {n : Nat} {Z : Nat → Int} (h : UnderN T w a n Z) (hg : w.grownBy w' row) (hs : ∀ s, row = some s → T ≤ s) : UnderN T w' a n Z := by
  rcases h with h | ⟨b, off, e, hl, hp⟩
  · exact .inl h
  · exact .inr ⟨b, off, e, hl, fun i hi => hg.cell (hp i hi) (fun e => by have := hs b e.symm; omega)⟩
theorem below_rowN {B : Nat} {row : Option Nat} {a b : World} (h : a.grownBy b row) (hs : ∀ s, row = some s → B ≤ s) (hl : B ≤ a.heap.size) : Below B a b :=
  ⟨h.os, h.tape, h.output, h.size, fun k hk => h.block k (by omega) (fun e => by have := hs k e.symm; omega)⟩
theorem grown_transN {a b c : World} {r : Option Nat} (h : a.grownBy b r) (k : b.grownBy c r) : a.grownBy c r :=
  ⟨k.os.trans h.os, k.tape.trans h.tape, k.output.trans h.output, Nat.le_trans h.size k.size, fun j hj hs => (k.block j (Nat.lt_of_lt_of_le hj h.size) hs).trans (h.block j hj hs)⟩
theorem grown_belowN {a b : World} {r : Option Nat} (h : Below a.heap.size a b) : a.grownBy b r := ⟨h.os, h.tape, h.output, h.size, fun j hj _ => h.block j hj⟩
theorem bl_cellN {w w' : World} {p : Addr} {v : Value} (hb : Below w.heap.size w w') (h : w.cell? p = some v) : w'.cell? p = some v := (hb.cell (World.block_lt_of_cell? _ _ h)).trans h
theorem ro_cellN {w w' : World} {b o : Nat} {row : Option Nat} {v : Value} (hg : w.grownBy w' row) (h : w.cell? ⟨b, o, none⟩ = some v) (hs : ∀ s, row = some s → b ≠ s) : w'.cell? ⟨b, o, none⟩ = some v := hg.cell h (fun e => hs _ e.symm rfl)

end Go.Proofs.YthadmnhpjklmiaaGreat
/- Helpers for the law of a function of a list of features and a struct of numbers. -/

namespace Go.Proofs.YthadmnhpjklmiaaGreat
open Go.RowKit
set_option linter.unusedSimpArgs false
set_option linter.unusedVariables false
set_option maxRecDepth 100000

theorem OwnN.mid {w w' : World} {base lo hi : Nat} {v : Value} {n : Nat} {Z : Nat → Int} (h : OwnN w base v n Z) (hM : MidB lo hi w w') (hh : hi ≤ base) : OwnN w' base v n Z := by
  obtain ⟨a, cap, hv, hc, h0 | ⟨b, ha, hbb, hl, hp, ht⟩⟩ := h
  · exact ⟨a, cap, hv, hc, .inl h0⟩
  · exact ⟨a, cap, hv, hc, .inr ⟨b, ha, hbb, Nat.lt_of_lt_of_le hl hM.size, fun i hi => hM.cell (hp i hi) (.inr (by omega)), hM.there ht (.inr (by omega))⟩⟩
theorem UnderN.mid {T lo hi : Nat} {w w' : World} {a : Option Addr} {n : Nat} {Z : Nat → Int} (h : UnderN T w a n Z) (hM : MidB lo hi w w') (hT : T ≤ lo) : UnderN T w' a n Z := by
  rcases h with h | ⟨b, off, e, hl, hp⟩
  · exact .inl h
  · exact .inr ⟨b, off, e, hl, fun i hi => hM.cell (hp i hi) (.inl (by omega))⟩
theorem OwnN.wide {w : World} {base B : Nat} {v : Value} {n : Nat} {Z : Nat → Int} (h : OwnN w base v n Z) (hB : B ≤ base) : OwnN w B v n Z := by
  obtain ⟨a, cap, hv, hc, h0 | ⟨b, ha, hbb, hr⟩⟩ := h
  · exact ⟨a, cap, hv, hc, .inl h0⟩
  · exact ⟨a, cap, hv, hc, .inr ⟨b, ha, by omega, hr⟩⟩
theorem There.lt2z {W : World} {r : Nat} (h : There W r 2) : r < W.heap.size := by
  obtain ⟨⟨v, hv⟩, _⟩ := h 0 (by omega)
  exact World.block_lt_of_cell? _ _ hv
theorem OwnN.setZ {w : World} {base B r o : Nat} {v u : Value} {n : Nat} {Z : Nat → Int} (h : OwnN w base v n Z) (hr : r < base) (hB : B ≤ base) : OwnN (w.setCell ⟨r, o, none⟩ u) B v n Z := by
  obtain ⟨a, cap, hv, hc, h0 | ⟨b, ha, hbb, hl, hp, ht⟩⟩ := h
  · exact ⟨a, cap, hv, hc, .inl h0⟩
  · have hne : ∀ i : Nat, (⟨r, o, none⟩ : Addr) ≠ ⟨b, i, none⟩ := fun i e => by injection e with e; omega
    refine ⟨a, cap, hv, hc, .inr ⟨b, ha, by omega, by simpa [World.setCell] using hl, fun i hi => ?_, fun o' ho' => ?_⟩⟩
    · rw [set1_other (hne _)]; exact hp i hi
    · obtain ⟨⟨x, hx⟩, hf⟩ := ht o' ho'
      exact ⟨⟨x, by rw [set1_other (hne _)]; exact hx⟩, by rw [World.frozen?_setCell]; exact hf⟩
theorem there2z (V : World) (a b : Value) (t : TypeId) : There (V.alloc (.cells #[a, b] t)) V.heap.size 2 := fun o ho => by
  have : o = 0 ∨ o = 1 := by omega
  rcases this with rfl | rfl <;> exact ⟨⟨_, by simp [go_sem]; rfl⟩, by simp [go_sem]⟩
end Go.Proofs.YthadmnhpjklmiaaGreat
