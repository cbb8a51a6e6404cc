/- Several texts in one. -/
import Derived.Test.YtciidkmonfmipaaGreatVPutTile34
import Derived.Test.YtciidkmonfmipaaGreatVPutTile36
import Derived.Test.YtciidkmonfmipaaGreatVPutTile38
import Derived.Test.YtciidkmonfmipaaGreatVPutTile31
import Derived.Test.YtciidkmonfmipaaGreatVPutTile15
import Derived.Test.YtciidkmonfmipaaGreatVPutTile14
import Derived.Test.YtciidkmonfmipaaGreatVPutTile7
import Derived.Test.YtciidkmonfmipaaGreatVPutTile19
import Derived.Test.YtciidkmonfmipaaGreatVPutTile20

/- The shelf: a tile that is there is touched. -/

namespace Go.Proofs.YtciidkmonfmipaaGreat
open Go.RowKit
set_option linter.unusedSimpArgs false
set_option linter.unusedVariables false
set_option maxRecDepth 100000

end Go.Proofs.YtciidkmonfmipaaGreat
/- A tile of a cache is touched: the program. -/

namespace Go.Proofs.YtciidkmonfmipaaGreat
open Go.RowKit
set_option linter.unusedSimpArgs false
set_option linter.unusedVariables false
set_option maxRecDepth 100000

end Go.Proofs.YtciidkmonfmipaaGreat
/- The model's copy of a cache in which one tile stands behind all others. -/

namespace Go.Proofs.YtciidkmonfmipaaGreat
open Go.RowKit
set_option linter.unusedSimpArgs false
set_option linter.unusedVariables false
set_option maxRecDepth 100000

theorem There.keepB {w w' : World} {q n : Nat} (h : There w q n) (he : w'.heap[q]? = w.heap[q]?) : There w' q n := fun o hn => by
  obtain ⟨v, hv⟩ := (h o hn).1
  refine ⟨⟨v, (World.cell?_of_block (a := ⟨q, o, none⟩) he).trans hv⟩, ?_⟩
  have hz := (h o hn).2
  unfold World.frozen? at hz ⊢
  simp only [he]
  exact hz
theorem ownsRow_setN {base s n r o : Nat} {t : TypeId} {w : World} {v u : Value} {xs : List Value} (h : w.ownsRow base t s v n xs) (hr : ∀ g, v.ownBlock = some g → g ≠ r) : (w.setCell ⟨r, o, none⟩ u).ownsRow base t s v n xs := by
  obtain ⟨h1, h2 | ⟨g, cp, cur, hv, hg, hh, h3⟩⟩ := h
  · exact ⟨h1, .inl h2⟩
  · refine ⟨h1, .inr ⟨g, cp, cur, hv, hg, (((MidB.refl r (r + 1) w).set (Nat.le_refl _) (Nat.lt_succ_self _) o u).block g (Array.getElem?_eq_some_iff.1 hh).1 ?_).trans hh, h3⟩⟩
    have := hr g (by rw [hv]; rfl)
    omega
/-- What was the same stays so behind an append and a store. -/
theorem gr_old {B gr q : Nat} {u : Value} {wr wA w3 w5 : World} (hA : Below wr.heap.size wr wA) (h3 : wA.grownBy w3 u.ownBlock) (h5 : MidB q (q + 1) w3 w5) (hq : wr.heap.size ≤ q ∨ q < B) (hl : u.ownBlock = some gr ∨ gr = wA.heap.size) : ∀ W, GrF B (some gr) w5 W → GrF B u.ownBlock wr W := fun W h => by
  have hsA := hA.size
  have hs3 := h3.size
  have hs5 := h5.size
  refine ⟨?_, ?_, ?_, by have := h.size; omega, fun j h1 h2 h3' => ?_⟩
  · rw [h.os, h5.os, h3.os, hA.os]
  · rw [h.tape, h5.tape, h3.tape, hA.tape]
  · rw [h.output, h5.output, h3.output, hA.output]
  · have e1 : some j ≠ some gr := by
      rcases hl with hl | hl
      · rw [← hl]; exact h3'
      · intro e; injection e with e; omega
    rw [h.block j h1 (by omega) e1, h5.block j (by omega) (by omega)]
    exact (h3.block j (by omega) h3').trans (hA.block j h2)
theorem LesR.add {B T q gr cr : Nat} {w2 wi wA w3 : World} {ua : Option Addr} {uc m : Nat} {K R : Nat → Kp} {k0 r : Kp} {v : Value} (h : LesR B w2 ua uc m K R) (hi : Below w2.heap.size w2 wi) (hA : Below wi.heap.size wi wA)
    (hO3 : w3.ownsRow B 72 5 (.slice (some ⟨gr, 0, none⟩) (m + 1) cr) (m + 1) (kpsCs (rowL m R) ++ kpCs (agK r 0)))
    (h3 : wA.grownBy w3 (Value.slice ua m uc).ownBlock) (hl : (Value.slice ua m uc).ownBlock = some gr ∨ gr = wA.heap.size)
    (hq : w2.heap.size ≤ q ∨ q < B) (hqi : q < wi.heap.size) (hqT : q < T) (hBT : B ≤ T) (hr : KpFar T (Value.slice ua m uc).ownBlock wi k0 r) :
    LesR B (w3.setCell ⟨q, 1, none⟩ v) (some ⟨gr, 0, none⟩) cr (m + 1) (fun i => if i = m then k0 else K i) (fun i => if i = m then r else R i) := by
  have hM := (MidB.refl q (q + 1) w3).set (Nat.le_refl _) (Nat.lt_succ_self _) 1 v
  have hsA := hA.size
  have hsi := hi.size
  refine ⟨ownsRow_setN ?_ (fun g e => ?_), fun i hi' W hW => ?_⟩
  · rw [rowL_add, kpsCs_app]
    have e1 : kpsCs [agK r 0] = kpCs (agK r 0) := by simp [kpsCs]
    rw [e1]
    exact hO3
  · have e' : gr = g := Option.some.inj e
    rcases hl with hl | hl
    · have := h.1.lt gr hl; omega
    · omega
  · by_cases e : i = m
    · simp only [if_pos e]
      exact hr W (gr_old hA h3 hM (.inr hqT) hl W (hW.wide hBT))
    · simp only [if_neg e]
      exact h.2 i (by omega) W (gr_old (bl_then hi hA) h3 hM hq hl W hW)
theorem LesR.step {B q c m m' : Nat} {w w' : World} {a : Option Addr} {K R : Nat → Kp} (h : LesR B w a c m K R) (hM : ∀ j, j < w.heap.size → (j < q ∨ q + 1 ≤ j) → w'.heap[j]? = w.heap[j]?) (hg : ∀ W, GrF B (Value.slice a m c).ownBlock w' W → GrF B (Value.slice a m c).ownBlock w W) (hq : q < B) (hm : m = m') : LesR B w' a c m' K R := by
  subst hm
  refine ⟨?_, fun i hi W hW => h.2 i hi W (hg W hW)⟩
  obtain ⟨h1, h2 | ⟨g, cp, cur, hv, hgB, hh, h3⟩⟩ := h.1
  · exact ⟨h1, .inl h2⟩
  · exact ⟨h1, .inr ⟨g, cp, cur, hv, hgB, (hM g (Array.getElem?_eq_some_iff.1 hh).1 (.inr (by omega))).trans hh, h3⟩⟩
end Go.Proofs.YtciidkmonfmipaaGreat
/- The nearest tile that is kept: the model and the program. -/

namespace Go.Proofs.YtciidkmonfmipaaGreat
open Go.RowKit
set_option linter.unusedSimpArgs false
set_option linter.unusedVariables false
set_option maxRecDepth 100000

theorem atK_or (n : Nat) (K : Nat → Kp) (z x y : Int) : atK n K z x y = -1 ∨ ∃ i : Nat, i < n ∧ atK n K z x y = (i : Int) ∧ (K i).z = z ∧ (K i).x = x ∧ (K i).y = y := by
  unfold atK
  rcases firstI_or (fun i => isK (K i) z x y) n with ⟨h1, h2⟩ | ⟨i, hi, hg, hf, hn⟩
  · exact .inl h1
  · exact .inr ⟨i, hi, hf, isK_iff.1 hg⟩
end Go.Proofs.YtciidkmonfmipaaGreat
/- TakeTile: the model. -/

namespace Go.Proofs.YtciidkmonfmipaaGreat
open Go.RowKit
set_option linter.unusedSimpArgs false
set_option linter.unusedVariables false
set_option maxRecDepth 100000

theorem kC_m {A : Nat → Kp} {i : Nat} (h : kC A i = 0) : (A i).m = 64 := by
  have h1 := (kC_zero h).1
  have h2 := tC_zero h1
  have h3 : (rtL (A i).z (A i).x (A i).y (A i).fn (A i).F).length = 64 := by unfold rtL; rw [if_pos h2, rasK_len]
  by_cases e : (A i).m = 64
  · exact e
  · have := tC_state h2 (sameI_len (by rw [h3]; exact e))
    rw [h1] at this; cases this
/-- The places that stay where the tile of a ref goes. -/
theorem lesJ_less {n : Nat} {A : Nat → Kp} {z x y : Int} (h0 : ∀ j, j < n → kC A j = 0) (hat : 0 ≤ atK n A z x y) : lesJ (atK n A z x y) n = lessI n A z x y := by
  rcases atK_or n A z x y with h | ⟨i, hi, h, a1, a2, a3⟩
  · rw [h] at hat; omega
  rw [h]
  have hi1 : isK (A i) z x y = true := isK_iff.2 ⟨a1, a2, a3⟩
  have hno : ∀ k, k < n → k ≠ i → isK (A k) z x y = false := fun k hk hne => by
    cases e : isK (A k) z x y
    · rfl
    · obtain ⟨b1, b2, b3⟩ := isK_iff.1 e
      rcases Nat.lt_or_ge k i with hl | hl
      · exact absurd (atK_pos.2 ⟨k, hl, isK_iff.2 ⟨b1.trans a1.symm, b2.trans a2.symm, b3.trans a3.symm⟩⟩) (kC_zero (h0 i hi)).2
      · exact absurd (atK_pos.2 ⟨i, by omega, isK_iff.2 ⟨a1.trans b1.symm, a2.trans b2.symm, a3.trans b3.symm⟩⟩) (kC_zero (h0 k hk)).2
  have hall : ∀ k, k ≤ n → lesJ (i : Int) k = (List.range k).filter (fun j => !isK (A j) z x y) := by
    intro k
    induction k with
    | zero => intro _; rfl
    | succ k ih =>
      intro hk
      rw [lesJ, List.range_succ, List.filter_append, ih (by omega)]
      by_cases e : (k : Int) = (i : Int)
      · have e' : k = i := by omega
        rw [if_pos e, e']
        simp [hi1]
      · have e' : k ≠ i := by omega
        rw [if_neg e]
        simp [hno k (by omega) e']
  exact hall n (Nat.le_refl _)
end Go.Proofs.YtciidkmonfmipaaGreat
/- TouchTile: the model. -/

namespace Go.Proofs.YtciidkmonfmipaaGreat
open Go.RowKit
set_option linter.unusedSimpArgs false
set_option linter.unusedVariables false
set_option maxRecDepth 100000

theorem KsSm.congr {w : World} {a : Option Addr} {n : Nat} {K K' R : Nat → Kp} (h : KsSm w a n K R) (hs : ∀ i, i < n → K i = K' i) : KsSm w a n K' R :=
  h.imp id (fun ⟨g, e, h1, h2⟩ => ⟨g, e, h1, fun i hi => by rw [← hs i hi]; exact h2 i hi⟩)
end Go.Proofs.YtciidkmonfmipaaGreat
/- A block that holds an answer with a code and one thing more. -/

namespace Go.Proofs.YtciidkmonfmipaaGreat
open Go.RowKit
end Go.Proofs.YtciidkmonfmipaaGreat
/- Marks of an answer with features. -/

namespace Go.Proofs.YtciidkmonfmipaaGreat
open Go.RowKit
set_option linter.unusedSimpArgs false
set_option linter.unusedVariables false
set_option maxRecDepth 100000

/-- An answer whose blocks lie from lo to hi. -/
def OwnR (w : World) (lo hi : Nat) (a : Option Addr) (m : Nat) (N C : Nat → Nat) : Prop := m = 0 ∨ ∃ g q, a = some ⟨g, 0, none⟩ ∧ OwnQ w lo hi g m N C q
theorem OwnR.away {w w' : World} {lo hi lo' hi' m : Nat} {a : Option Addr} {N C : Nat → Nat} (h : OwnR w lo hi a m N C) (hm : MidB lo' hi' w w') (ho : hi' ≤ lo ∨ hi ≤ lo') : OwnR w' lo hi a m N C := by
  rcases h with h | ⟨g, q, e, hq⟩
  · exact .inl h
  · exact .inr ⟨g, q, e, hq.away hm ho⟩
theorem markFs_none (a : Option Addr) (cap : Nat) (k : Int) (w : World) :
    Calls Tryz.prog 39 #[.slice a 0 cap, .int .i64 k] w fun e w' => e = .returned (.int .i64 k) ∧ w = w' := by
  go_enter Tryz.func39, Tryz.ntmps39
  go_wp2_with fail
  go_loopw [1, 5] (fun kk i wr => kk = .int .i64 k ∧ i = .int .i64 0 ∧ w = wr) (fun _ _ _ => 0)
  case atStart => exact ⟨rfl, rfl, rfl⟩
  case round =>
    obtain ⟨rfl, rfl, rfl⟩ := hrel
    go_wp2
    go_ret
    exact ⟨rfl, rfl⟩
theorem heldFs_none (a : Option Addr) (cap : Nat) (k : Int) (w : World) :
    Calls Tryz.prog 110 #[.slice a 0 cap, .int .i64 k] w fun e w' => e = .returned (.int .i64 k) ∧ w = w' := by
  go_enter Tryz.func110, Tryz.ntmps110
  go_wp2_with fail
  go_loopw [1, 5] (fun kk i wr => kk = .int .i64 k ∧ i = .int .i64 0 ∧ w = wr) (fun _ _ _ => 0)
  case atStart => exact ⟨rfl, rfl, rfl⟩
  case round =>
    obtain ⟨rfl, rfl, rfl⟩ := hrel
    go_wp2
    go_ret
    exact ⟨rfl, rfl⟩
end Go.Proofs.YtciidkmonfmipaaGreat
/- Kept tiles in memory of their own are marked, and the marks are found again. -/

namespace Go.Proofs.YtciidkmonfmipaaGreat
open Go.RowKit
set_option linter.unusedSimpArgs false
set_option linter.unusedVariables false
set_option maxRecDepth 100000

theorem MidB.wide {lo hi lo' hi' : Nat} {a b : World} (h : MidB lo' hi' a b) (h1 : lo ≤ lo') (h2 : hi' ≤ hi) : MidB lo hi a b := ⟨h.os, h.tape, h.output, h.size, fun k hk ho => h.block k hk (by omega)⟩
/-- How many points the features of a tile have. -/
abbrev ptN (r : Kp) : Nat → Nat := fun i => (r.F i).n
abbrev ptC (r : Kp) : Nat → Nat := fun i => (r.F i).cap
/-- How far the marks of a tile go. -/
def kN (r : Kp) (k : Nat) : Nat := kS (ptN r) (k + 3) r.fn + r.m
def kK (R : Nat → Kp) (k0 : Nat) : Nat → Nat
  | 0 => k0
  | j + 1 => kN (R j) (kK R k0 j)
theorem kS_ge (N : Nat → Nat) (k0 : Nat) : ∀ i, k0 ≤ kS N k0 i
  | 0 => Nat.le_refl _
  | i + 1 => by have := kS_ge N k0 i; rw [kS]; omega
theorem kS_small {r : Kp} {k : Nat} (h : SmallK r) : k ≤ kS (ptN r) k r.fn ∧ kS (ptN r) k r.fn ≤ k + 2199029547008 := by
  refine ⟨kS_ge _ _ _, ?_⟩
  have h1 := kS_le (ptN r) k r.fn (fun i hi => (h.1.2 i hi).1) r.fn (Nat.le_refl _)
  have h2 := h.1.1
  omega
theorem kN_le {r : Kp} {k : Nat} (h : SmallK r) : k ≤ kN r k ∧ kN r k ≤ k + 2199030595587 := by
  have h1 := kS_small (k := k + 3) h
  have h2 := h.2
  unfold kN
  omega
theorem kK_le {R : Nat → Kp} {k0 n : Nat} (h : SmallKs n R) : ∀ j, j ≤ n → k0 ≤ kK R k0 j ∧ kK R k0 j ≤ k0 + j * 2199030595587
  | 0, _ => by simp [kK]
  | j + 1, hj => by
    have h1 := kK_le (k0 := k0) h j (by omega)
    have h2 := kN_le (k := kK R k0 j) (h.2 j (by omega))
    rw [kK]; omega
theorem kK_small {R : Nat → Kp} {k0 n : Nat} (h : SmallKs n R) (h0 : k0 ≤ 1000000000) {j : Nat} (hj : j ≤ n) : k0 ≤ kK R k0 j ∧ kK R k0 j ≤ 2400000000000000000 := by
  have h1 := kK_le (k0 := k0) h j hj
  have h2 := h.1
  omega
theorem MarkF.mid {w w' : World} {b q i N C k l h : Nat} (hm : MarkF w b q i N C k) (hM : MidB l h w w') (hb : b < l ∨ h ≤ b) (hq : q < l ∨ h ≤ q) : MarkF w' b q i N C k := by
  obtain ⟨⟨a0, a1, a2, a3, a4, a5, a6⟩, hp⟩ := hm
  exact ⟨⟨hM.cell a0 hb, hM.cell a1 hb, hM.cell a2 hb, hM.cell a3 hb, hM.cell a4 hb, hM.cell a5 hb, hM.cell a6 hb⟩, fun i hi => ⟨hM.cell (hp i hi).1 hq, hM.cell (hp i hi).2 hq⟩⟩
/-- A list of features between two blocks bears the marks from k on. -/
def MkR (w : World) (lo md : Nat) (a : Option Addr) (m : Nat) (N C : Nat → Nat) (k : Nat) : Prop := m = 0 ∨ ∃ (g : Nat) (q : Nat → Nat), a = some ⟨g, 0, none⟩ ∧ (lo ≤ g ∧ g < md) ∧ (∀ i, i < m → lo ≤ q i ∧ q i < md) ∧ ∀ i, i < m → MarkF w g (q i) i (N i) (C i) (kS N k i)
/-- A tile whose memory lies from lo to hi and may be written: its features ahead of its Ids. -/
def TlW (w : World) (lo hi : Nat) (r : Kp) : Prop := ∃ md, lo ≤ md ∧ md ≤ hi ∧ hi ≤ w.heap.size ∧ OwnR w lo md r.fa r.fn (ptN r) (ptC r) ∧ (r.m = 0 ∨ ∃ ib, r.ia = some ⟨ib, 0, none⟩ ∧ md ≤ ib ∧ ib < hi ∧ There w ib r.m)
/-- A tile bears the marks from k on (its ref's stand in the row). -/
def TlM (w : World) (lo hi : Nat) (r : Kp) (k : Nat) : Prop := ∃ md, lo ≤ md ∧ md ≤ hi ∧ hi ≤ w.heap.size ∧ MkR w lo md r.fa r.fn (ptN r) (ptC r) (k + 3) ∧ (r.m = 0 ∨ ∃ ib, r.ia = some ⟨ib, 0, none⟩ ∧ md ≤ ib ∧ ib < hi ∧ NsAt w ib 0 r.m (mkN (kS (ptN r) (k + 3) r.fn)))
theorem TlW.mid {w w' : World} {lo hi l h : Nat} {r : Kp} (hT : TlW w lo hi r) (hM : MidB l h w w') (ho : h ≤ lo ∨ hi ≤ l) : TlW w' lo hi r := by
  obtain ⟨md, h1, h2, h3, h4, h5⟩ := hT
  refine ⟨md, h1, h2, Nat.le_trans h3 hM.size, h4.away hM (by omega), h5.imp id (fun ⟨ib, e, a, b, c⟩ => ⟨ib, e, a, b, hM.there c (by omega)⟩)⟩
theorem MkR.mid {w w' : World} {lo md l h : Nat} {a : Option Addr} {m : Nat} {N C : Nat → Nat} {k : Nat} (hT : MkR w lo md a m N C k) (hM : MidB l h w w') (ho : h ≤ lo ∨ md ≤ l) : MkR w' lo md a m N C k :=
  hT.imp id (fun ⟨g, q, e, h1, h2, h3⟩ => ⟨g, q, e, h1, h2, fun i hi => (h3 i hi).mid hM (by omega) (by have := h2 i hi; omega)⟩)
theorem TlM.mid {w w' : World} {lo hi l h : Nat} {r : Kp} {k : Nat} (hT : TlM w lo hi r k) (hM : MidB l h w w') (ho : h ≤ lo ∨ hi ≤ l) : TlM w' lo hi r k := by
  obtain ⟨md, h1, h2, h3, h4, h5⟩ := hT
  refine ⟨md, h1, h2, Nat.le_trans h3 hM.size, h4.mid hM (by omega), h5.imp id (fun ⟨ib, e, a, b, c⟩ => ⟨ib, e, a, b, fun i hi => hM.cell (c i hi) (by omega)⟩)⟩
/-- The two slices of tile j in the row. -/
def Sl2 (w : World) (g j : Nat) (r : Kp) : Prop := w.cell? ⟨g, j * 5 + 3, none⟩ = some (.slice r.fa r.fn r.fc) ∧ w.cell? ⟨g, j * 5 + 4, none⟩ = some (.slice r.ia r.m r.ic)
/-- The three marks of the ref of tile j in the row. -/
def Rf3 (w : World) (g j k : Nat) : Prop := w.cell? ⟨g, j * 5, none⟩ = some (.int .i64 ((k : Nat) : Int)) ∧ w.cell? ⟨g, j * 5 + 1, none⟩ = some (.int .i64 ((k + 1 : Nat) : Int)) ∧ w.cell? ⟨g, j * 5 + 2, none⟩ = some (.int .i64 ((k + 2 : Nat) : Int))
theorem Sl2.mid {w w' : World} {g j l h : Nat} {r : Kp} (hS : Sl2 w g j r) (hM : MidB l h w w') (ho : g < l ∨ h ≤ g) : Sl2 w' g j r := ⟨hM.cell hS.1 ho, hM.cell hS.2 ho⟩
theorem Rf3.mid {w w' : World} {g j l h k : Nat} (hS : Rf3 w g j k) (hM : MidB l h w w') (ho : g < l ∨ h ≤ g) : Rf3 w' g j k := ⟨hM.cell hS.1 ho, hM.cell hS.2.1 ho, hM.cell hS.2.2 ho⟩
/-- Tiles that may be marked: the row in block g, each tile between two of the blocks M. -/
def KsW (w : World) (g n : Nat) (R : Nat → Kp) (M : Nat → Nat) : Prop := There w g (n * 5) ∧ g < M 0 ∧ (∀ j, j < n → M j ≤ M (j + 1) ∧ Sl2 w g j (R j) ∧ TlW w (M j) (M (j + 1)) (R j)) ∧ M n ≤ w.heap.size
/-- .. that bear marks. -/
def KsM (w : World) (g n : Nat) (R : Nat → Kp) (M : Nat → Nat) (k0 : Nat) : Prop := g < M 0 ∧ M n ≤ w.heap.size ∧ ∀ j, j < n → M j ≤ M (j + 1) ∧ Sl2 w g j (R j) ∧ Rf3 w g j (kK R k0 j) ∧ TlM w (M j) (M (j + 1)) (R j) (kK R k0 j)
theorem upM {M : Nat → Nat} {n : Nat} (h : ∀ j, j < n → M j ≤ M (j + 1)) : ∀ {i j}, i ≤ j → j ≤ n → M i ≤ M j := by
  intro i j hij
  induction j with
  | zero => intro _; have : i = 0 := by omega
            subst this; exact Nat.le_refl _
  | succ j ih =>
    intro hj
    by_cases e : i = j + 1
    · subst e; exact Nat.le_refl _
    · exact Nat.le_trans (ih (by omega) (by omega)) (h j (by omega))
theorem KsM.mid {w w' : World} {g n k0 l h : Nat} {R : Nat → Kp} {M : Nat → Nat} (hT : KsM w g n R M k0) (hM : MidB l h w w') (ho : h ≤ g ∨ M n ≤ l) : KsM w' g n R M k0 := by
  obtain ⟨h1, h2, h3⟩ := hT
  have hu := fun i j (a : i ≤ j) (b : j ≤ n) => upM (fun j hj => (h3 j hj).1) a b
  have h0n := hu 0 n (Nat.zero_le _) (Nat.le_refl _)
  refine ⟨h1, Nat.le_trans h2 hM.size, fun j hj => ⟨(h3 j hj).1, (h3 j hj).2.1.mid hM (by omega), (h3 j hj).2.2.1.mid hM (by omega), (h3 j hj).2.2.2.mid hM ?_⟩⟩
  have := hu 0 j (Nat.zero_le _) (by omega)
  have := hu (j + 1) n (by omega) (Nat.le_refl _)
  omega
theorem KsM.below {w w' : World} {g n k0 : Nat} {R : Nat → Kp} {M : Nat → Nat} (hT : KsM w g n R M k0) (hb : Below w.heap.size w w') : KsM w' g n R M k0 := hT.mid (MidB.of_below (lo := M n) (hi := g) hb) (.inl (Nat.le_refl _))
/-- The features of a tile are marked. -/
theorem markFsK_any (lo md : Nat) (a : Option Addr) (m cap k : Nat) (N C : Nat → Nat) (w : World) (h : OwnR w lo md a m N C) (hm : m ≤ 1048576) (hN : ∀ i, i < m → N i ≤ 1048576) (h0 : 0 < k) (hk : k ≤ 5000000000000000000) :
    Calls Tryz.prog 39 #[.slice a m cap, .int .i64 (k : Int)] w fun e w' => e = .returned (.int .i64 ((kS N k m : Nat) : Int)) ∧ MidB lo md w w' ∧ MkR w' lo md a m N C k := by
  rcases h with rfl | ⟨g, q, rfl, hO⟩
  · refine (markFs_none a cap _ w).mono ?_
    rintro e w' ⟨rfl, rfl⟩
    exact ⟨rfl, MidB.refl _ _ _, .inl rfl⟩
  · refine (markFs_any lo md g m cap k N C q w hO hm hN h0 hk).mono ?_
    rintro e w' ⟨rfl, h1, h2, h3⟩
    exact ⟨rfl, h2, .inr ⟨g, q, rfl, ⟨h1.1.1, h1.1.2.1⟩, fun i hi => ⟨(h1.2.2.1 i hi).1.1, (h1.2.2.1 i hi).1.2.1⟩, h3⟩⟩
/-- .. and found again. -/
theorem heldFsK_any (lo md : Nat) (a : Option Addr) (m cap k : Nat) (N C : Nat → Nat) (w : World) (h : MkR w lo md a m N C k) (hmd : md ≤ w.heap.size) (hm : m ≤ 1048576) (hN : ∀ i, i < m → N i ≤ 1048576) (h0 : 0 < k) (hk : k ≤ 5000000000000000000) :
    Calls Tryz.prog 110 #[.slice a m cap, .int .i64 (k : Int)] w fun e w' => e = .returned (.int .i64 ((kS N k m : Nat) : Int)) ∧ Below w.heap.size w w' := by
  rcases h with rfl | ⟨g, q, rfl, h1, h2, h3⟩
  · refine (heldFs_none a cap _ w).mono ?_
    rintro e w' ⟨rfl, rfl⟩
    exact ⟨rfl, Below.refl _ _⟩
  · exact heldFs_any g m cap k N C q w h3 (by omega) (fun i hi => by have := h2 i hi; omega) hm hN h0 hk
/-- The Ids of a tile are marked. -/
theorem markNsK_any (md hi : Nat) (a : Option Addr) (m cap k : Nat) (w : World) (h : m = 0 ∨ ∃ ib, a = some ⟨ib, 0, none⟩ ∧ md ≤ ib ∧ ib < hi ∧ There w ib m) (hh : hi ≤ w.heap.size) (hm : m ≤ 1048576) (hk : k ≤ 6000000000000000000) :
    Calls Tryz.prog 73 #[.slice a m cap, .int .i64 (k : Int)] w fun e w' => e = .returned (.int .i64 ((k + m : Nat) : Int)) ∧ MidB md hi w w' ∧ (m = 0 ∨ ∃ ib, a = some ⟨ib, 0, none⟩ ∧ md ≤ ib ∧ ib < hi ∧ NsAt w' ib 0 m (mkN k)) := by
  rcases h with rfl | ⟨ib, rfl, h1, h2, h3⟩
  · refine (markInt64S_none a cap _ w).mono ?_
    rintro e w' ⟨rfl, rfl⟩
    exact ⟨rfl, MidB.refl _ _ _, .inl rfl⟩
  · refine (markInt64S_any ib m cap k w h3 (by omega) hm hk).mono ?_
    rintro e w' ⟨rfl, h4, h5, h6⟩
    exact ⟨rfl, MidB.of_grown h4 h1 h2, .inr ⟨ib, rfl, h1, h2, h6⟩⟩
/-- Three stores into the row: the ref of tile j is marked. -/
def lay3 (W : World) (g j k : Nat) : World := ((W.setCell ⟨g, j * 5, none⟩ (.int .i64 (k : Nat))).setCell ⟨g, j * 5 + 1, none⟩ (.int .i64 ((k + 1 : Nat) : Int))).setCell ⟨g, j * 5 + 2, none⟩ (.int .i64 ((k + 2 : Nat) : Int))
theorem lay3_mid (W : World) (g j k : Nat) : MidB g (g + 1) W (lay3 W g j k) := (((MidB.refl g (g + 1) W).set (Nat.le_refl _) (Nat.lt_succ_self _) _ _).set (Nat.le_refl _) (Nat.lt_succ_self _) _ _).set (Nat.le_refl _) (Nat.lt_succ_self _) _ _
theorem lay3_there {W : World} {g j k m : Nat} (h : There W g m) : There (lay3 W g j k) g m := ((h.set _ _).set _ _).set _ _
theorem lay3_other {W : World} {g j k : Nat} {p : Addr} (h : p.block ≠ g ∨ p.off < j * 5 ∨ j * 5 + 2 < p.off) : (lay3 W g j k).cell? p = W.cell? p := by
  have ne : ∀ i : Nat, i ≤ 2 → (⟨g, j * 5 + i, none⟩ : Addr) ≠ p := fun i hi e => by subst e; simp at h; omega
  have ne0 : (⟨g, j * 5, none⟩ : Addr) ≠ p := ne 0 (by omega)
  unfold lay3
  rw [set1_other (ne 2 (by omega)), set1_other (ne 1 (by omega)), set1_other ne0]
theorem lay3_at {W : World} {g j k m : Nat} (h : There W g m) (ho : j * 5 + 2 < m) : Rf3 (lay3 W g j k) g j k := by
  have ne : ∀ a b : Nat, a ≠ b → (⟨g, a, none⟩ : Addr) ≠ ⟨g, b, none⟩ := fun a b hab e => hab (by injection e)
  obtain ⟨u0, g0⟩ := (h (j * 5) (by omega)).1
  obtain ⟨u1, g1⟩ := ((h.set (j * 5) (.int .i64 (k : Nat))) (j * 5 + 1) (by omega)).1
  obtain ⟨u2, g2⟩ := (((h.set (j * 5) (.int .i64 (k : Nat))).set (j * 5 + 1) (.int .i64 ((k + 1 : Nat) : Int))) (j * 5 + 2) (by omega)).1
  unfold lay3
  refine ⟨?_, ?_, ?_⟩
  · rw [set1_other (ne _ _ (by omega)), set1_other (ne _ _ (by omega))]; exact set1_same g0
  · rw [set1_other (ne _ _ (by omega))]; exact set1_same g1
  · exact set1_same g2
/-- What holds between two rounds: tiles ahead of j are marked, the others as they were. -/
def MkAt (w : World) (g n j : Nat) (R : Nat → Kp) (M : Nat → Nat) (k0 : Nat) : Prop := There w g (n * 5) ∧ M n ≤ w.heap.size ∧ (∀ i, i < n → Sl2 w g i (R i)) ∧ (∀ i, j ≤ i → i < n → TlW w (M i) (M (i + 1)) (R i)) ∧ ∀ i, i < j → Rf3 w g i (kK R k0 i) ∧ TlM w (M i) (M (i + 1)) (R i) (kK R k0 i)
/-- One more tile is marked. -/
theorem mark_stepK {wr w5 w6 : World} {g n j k0 md : Nat} {R : Nat → Kp} {M : Nat → Nat} (hA : MkAt wr g n j R M k0) (hj : j < n) (hg : g < M 0) (hM : ∀ j, j < n → M j ≤ M (j + 1))
    (hm : M j ≤ md ∧ md ≤ M (j + 1)) (h5 : MidB (M j) md (lay3 wr g j (kK R k0 j)) w5) (hR : MkR w5 (M j) md (R j).fa (R j).fn (ptN (R j)) (ptC (R j)) (kK R k0 j + 3))
    (h6 : MidB md (M (j + 1)) w5 w6) (hI : (R j).m = 0 ∨ ∃ ib, (R j).ia = some ⟨ib, 0, none⟩ ∧ md ≤ ib ∧ ib < M (j + 1) ∧ NsAt w6 ib 0 (R j).m (mkN (kS (ptN (R j)) (kK R k0 j + 3) (R j).fn))) :
    MkAt w6 g n (j + 1) R M k0 ∧ MidB g (M n) wr w6 := by
  obtain ⟨a1, a2, a3, a4, a5⟩ := hA
  have hu := fun i j (a : i ≤ j) (b : j ≤ n) => upM hM a b
  have u0 := hu 0 j (Nat.zero_le _) (by omega)
  have u1 := hu (j + 1) n (by omega) (Nat.le_refl _)
  have hl := lay3_mid wr g j (kK R k0 j)
  have hw : ∀ {lo hi lo' hi' : Nat} {a b : World}, MidB lo' hi' a b → lo ≤ lo' → hi' ≤ hi → MidB lo hi a b := fun h h1 h2 => ⟨h.os, h.tape, h.output, h.size, fun k hk ho => h.block k hk (by omega)⟩
  have hall : MidB g (M n) wr w6 := (hw hl (Nat.le_refl _) (by omega)).trans ((hw h5 (by omega) (by omega)).trans (hw h6 (by omega) (by omega)))
  have h56 : MidB (M j) (M (j + 1)) (lay3 wr g j (kK R k0 j)) w6 := (hw h5 (Nat.le_refl _) hm.2).trans (hw h6 hm.1 (Nat.le_refl _))
  refine ⟨⟨h56.there (lay3_there a1) (.inl (by omega)), Nat.le_trans a2 hall.size, fun i hi => ?_, fun i hi hin => ?_, fun i hi => ?_⟩, hall⟩
  · have h := a3 i hi
    refine Sl2.mid (w := lay3 wr g j (kK R k0 j)) ⟨?_, ?_⟩ h56 (.inl (by omega))
    · rw [lay3_other (by simp; omega)]; exact h.1
    · rw [lay3_other (by simp; omega)]; exact h.2
  · have := hu (j + 1) i hi (by omega)
    exact ((a4 i (by omega) hin).mid hl (.inl (by have := hu 0 i (Nat.zero_le _) (by omega); omega))).mid h56 (.inl (by omega))
  · by_cases e : i = j
    · subst e
      refine ⟨(lay3_at a1 (by omega)).mid h56 (.inl (by omega)), md, hm.1, hm.2, ?_, hR.mid h6 (.inr (Nat.le_refl _)), hI⟩
      exact Nat.le_trans u1 (Nat.le_trans a2 hall.size)
    · have hij : i < j := by omega
      have := hu (i + 1) j (by omega) (by omega)
      have u2 := hu 0 i (Nat.zero_le _) (by omega)
      refine ⟨?_, ((a5 i hij).2.mid hl (.inl (by omega))).mid h56 (.inr (by omega))⟩
      have h := (a5 i hij).1
      refine Rf3.mid (w := lay3 wr g j (kK R k0 j)) ⟨?_, ?_, ?_⟩ h56 (.inl (by omega))
      · rw [lay3_other (by simp; omega)]; exact h.1
      · rw [lay3_other (by simp; omega)]; exact h.2.1
      · rw [lay3_other (by simp; omega)]; exact h.2.2
set_option maxHeartbeats 8000000 in
theorem markKeptS_any (g n cap k0 : Nat) (R : Nat → Kp) (M : Nat → Nat) (w : World) (hW : KsW w g n R M) (hs : SmallKs n R) (h0 : 0 < k0) (hk0 : k0 ≤ 1000000000) :
    Calls Tryz.prog 38 #[.slice (some ⟨g, 0, none⟩) n cap, .int .i64 (k0 : Int)] w fun e w' => e = .returned (.int .i64 ((kK R k0 n : Nat) : Int)) ∧ KsM w' g n R M k0 ∧ MidB g (M n) w w' := by
  obtain ⟨hT, hg, hall, hMn⟩ := hW
  have HS : Hid (SmallKs n R) := hs
  have hn : n ≤ 1048576 := hs.1
  have HMl : Hid (∀ j, j < n → M j ≤ M (j + 1)) := fun j hj => (hall j hj).1
  have HA0 : Hid (MkAt w g n 0 R M k0) := ⟨hT, hMn, fun i hi => (hall i hi).2.1, fun i _ hi => (hall i hi).2.2, fun i hi => by omega⟩
  have hgl : g < w.heap.size := by have := upM HMl.out (Nat.zero_le n) (Nat.le_refl _); omega
  clear hT hall hs hMn
  go_enter Tryz.func38, Tryz.ntmps38
  go_wp2_with fail
  go_loopw [1, 5] (fun kk i wr => ∃ j K : Nat, j ≤ n ∧ Hid (K = kK R k0 j) ∧ kk = .int .i64 (K : Int) ∧ i = .int .i64 (j : Int) ∧ MkAt wr g n j R M k0 ∧ MidB g (M n) w wr) (fun _ i _ => n - (intOf i).toNat)
  case atStart => exact ⟨0, k0, by omega, rfl, rfl, rfl, HA0.out, MidB.refl _ _ _⟩
  case round =>
    obtain ⟨j, K, hj, HK, rfl, rfl, hA, hMd⟩ := hrel
    have HA : Hid (MkAt wr g n j R M k0) := hA
    have HMd : Hid (MidB g (M n) w wr) := hMd
    by_cases hlt : j < n
    · have hKb : K ≤ 2400000000000000000 := by have := HK.out; have := (kK_small HS.out hk0 (j := j) (by omega)).2; omega
      have hK0 : 0 < K := by have := HK.out; have := (kK_small HS.out hk0 (j := j) (by omega)).1; omega
      have hsm := HS.out.2 j hlt
      obtain ⟨md, m1, m2, m3, m4, m5⟩ := hA.2.2.2.1 j (Nat.le_refl _) hlt
      have hT := hA.1
      have t0 := hT.cell (j * 5) (by omega)
      have t1 := hT.cell (j * 5 + 1) (by omega)
      have t2 := hT.cell (j * 5 + 2) (by omega)
      have f0 := (hT (j * 5) (by omega)).2
      have f1 := (hT (j * 5 + 1) (by omega)).2
      have f2 := (hT (j * 5 + 2) (by omega)).2
      have hS2 := hA.2.2.1 j hlt
      have HLT : Hid (j < n) := hlt
      have hi : (j : Int) < (n : Int) := by omega
      have hi0 : (0 : Int) ≤ (j : Int) := by omega
      have hgr : g < wr.heap.size := Nat.lt_of_lt_of_le hgl hMd.size
      have e3 : (K : Int) + 1 + 1 + 1 = ((K + 3 : Nat) : Int) := by omega
      have e2 : (K : Int) + 1 + 1 = ((K + 2 : Nat) : Int) := by omega
      have e1 : (K : Int) + 1 = ((K + 1 : Nat) : Int) := by omega
      have E := (show Hid _ from (⟨e3, e2, e1⟩ : _ ∧ _ ∧ _))
      have hu0 := upM HMl.out (Nat.zero_le j) (by omega)
      have HF : Hid (∀ W, MidB g (g + 1) wr W → Calls Tryz.prog 39 #[.slice (R j).fa (R j).fn (R j).fc, .int .i64 ((K + 3 : Nat) : Int)] W fun e w' => e = .returned (.int .i64 ((kS (ptN (R j)) (K + 3) (R j).fn : Nat) : Int)) ∧ MidB (M j) md W w' ∧ MkR w' (M j) md (R j).fa (R j).fn (ptN (R j)) (ptC (R j)) (K + 3)) := fun W h =>
        markFsK_any (M j) md _ _ _ (K + 3) _ _ W (m4.away h (.inl (by omega))) hsm.1.1 (fun i hi => (hsm.1.2 i hi).1) (by omega) (by omega)
      have HI : Hid (∀ (W : World) (k : Nat), k ≤ 6000000000000000000 → MidB g md wr W → Calls Tryz.prog 73 #[.slice (R j).ia (R j).m (R j).ic, .int .i64 (k : Int)] W fun e w' => e = .returned (.int .i64 ((k + (R j).m : Nat) : Int)) ∧ MidB md (M (j + 1)) W w' ∧ ((R j).m = 0 ∨ ∃ ib, (R j).ia = some ⟨ib, 0, none⟩ ∧ md ≤ ib ∧ ib < M (j + 1) ∧ NsAt w' ib 0 (R j).m (mkN k))) := fun W k hk h =>
        markNsK_any md (M (j + 1)) _ _ _ k W (m5.imp id (fun ⟨ib, e, a, b, c⟩ => ⟨ib, e, a, b, h.there c (.inr a)⟩)) (Nat.le_trans m3 h.size) hsm.2 hk
      have HSS : Hid (kS (ptN (R j)) (K + 3) (R j).fn ≤ 6000000000000000000) := by show _ ≤ _; have := (kS_small (k := K + 3) hsm).2; omega
      have HNx : Hid (kS (ptN (R j)) (K + 3) (R j).fn + (R j).m = kK R k0 (j + 1)) := by show _ = _; rw [kK, ← HK.out]; rfl
      have Hm : Hid (M j ≤ md ∧ md ≤ M (j + 1)) := ⟨m1, m2⟩
      have HS2 : Hid (Sl2 wr g j (R j)) := hS2
      have HT : Hid (There wr g (n * 5)) := hT
      have c3 := hS2.1
      have hgj : g < M j := by omega
      clear hA hMd hT e3 e2 e1 m3 m4 m5 m1 m2 hS2 hsm hu0 hj
      go_wp2_with fail
      rw [E.out.1, E.out.2.1, E.out.2.2]
      have hL : ((wr.setCell ⟨g, j * 5, none⟩ (.int .i64 (K : Nat))).setCell ⟨g, j * 5 + 1, none⟩ (.int .i64 ((K + 1 : Nat) : Int))).setCell ⟨g, j * 5 + 2, none⟩ (.int .i64 ((K + 2 : Nat) : Int)) = lay3 wr g j K := rfl
      rw [hL]
      have HL := lay3_mid wr g j K
      refine (HF.out _ HL).mono ?_
      rintro e w5 ⟨rfl, hM5, hR5⟩
      have hs5 := hM5.size
      have HM5 : Hid (MidB (M j) md (lay3 wr g j K) w5) := hM5
      have HR5 : Hid (MkR w5 (M j) md (R j).fa (R j).fn (ptN (R j)) (ptC (R j)) (K + 3)) := hR5
      have HgM : Hid (g < M j) := hgj
      have d4 : w5.cell? ⟨g, j * 5 + 4, none⟩ = some (.slice (R j).ia (R j).m (R j).ic) := hM5.cell (by rw [lay3_other (by simp)]; exact HS2.out.2) (.inl hgj)
      have hS6 := HSS.out
      have HI5 := (show Hid _ from HI.out w5 _ hS6 ((MidB.wide HL (Nat.le_refl _) (by have := Hm.out; omega)).trans (hM5.wide (by omega) (Nat.le_refl _))))
      clear hM5 hR5 HF HI t0 t1 t2 f0 f1 f2 c3 hL HL
      generalize hQ : kS (ptN (R j)) (K + 3) (R j).fn = Q at *
      go_wp2_with fail
      refine Calls.mono HI5.out ?_
      rintro e w6 ⟨rfl, hM6, hI6⟩
      have HM6 : Hid (MidB md (M (j + 1)) w5 w6) := hM6
      have HI6 := (show Hid _ from hI6)
      have hm3 := HS.out.2 j HLT.out
      clear hM6 hI6 HI5 d4
      generalize hmm : (R j).m = mm at *
      go_wp2_with fail
      go_roundw
      case rel =>
        have hst := mark_stepK (k0 := k0) HA.out HLT.out hg HMl.out Hm.out (by rw [← HK.out]; exact HM5.out) (by rw [← HK.out]; exact HR5.out) HM6.out (by rw [← HK.out, hmm, hQ]; exact HI6.out)
        exact ⟨j + 1, Q + mm, by omega, by show _ = _; exact HNx.out, rfl, by go_num, hst.1, HMd.out.trans hst.2⟩
      case measure => have := HLT.out; simp [intOf]; omega
    · go_wp2
      go_ret
      have hjn : j = n := by omega
      subst hjn
      refine ⟨ret_int (by have := HK.out; omega), ⟨hg, hA.2.1, fun i hi => ⟨HMl.out i hi, hA.2.2.1 i hi, (hA.2.2.2.2 i hi).1, (hA.2.2.2.2 i hi).2⟩⟩, hMd⟩
end Go.Proofs.YtciidkmonfmipaaGreat
