/- Several texts in one. -/
import Derived.Test.YtciidkmonfmipaaGreatVPutTile30
import Derived.Test.YtciidkmonfmipaaGreatVPutTile40
import Derived.Test.YtciidkmonfmipaaGreatVPutTile15
import Derived.Test.YtciidkmonfmipaaGreatVPutTile41
import Derived.Test.YtciidkmonfmipaaGreatVPutTile39
import Derived.Test.YtciidkmonfmipaaGreatVPutTile36
import Derived.Test.YtciidkmonfmipaaGreatVPutTile37

/- The law of RasterTile returns true at every tile. -/

namespace Go.Proofs.YtciidkmonfmipaaGreat
open Go.RowKit
set_option linter.unusedSimpArgs false
set_option linter.unusedVariables false
set_option maxRecDepth 100000

theorem rt_same {z x y : Int} {n : Nat} {G F : Nat → Feat} (h : ∀ i, i < n → (G i).same (F i)) : rtC z x y n G = rtC z x y n F ∧ rtL z x y n G = rtL z x y n F := by
  have e1 : featsC n G = featsC n F := featsC_same h
  have e2 : ordS n G = ordS n F := by
    unfold ordS
    rw [decide_eq_decide]
    refine forall_congr' fun i => forall_congr' fun hi => ?_
    have a := h i (by omega)
    have b := h (i + 1) (by omega)
    have e : ltF (G i) (G (i + 1)) = ltF (F i) (F (i + 1)) := by unfold ltF; rw [a.1, a.2.1, b.1, b.2.1]
    rw [e]
  have e3 : rtC z x y n G = rtC z x y n F := by unfold rtC; rw [e1, e2]
  have e4 : paintF G n z = paintF F n z := by
    funext X Y
    unfold paintF
    have : ∀ k, k ≤ n → paintI (fun i => covF z (centI z X) (centI z Y) (G i)) (fun i => (G i).id) k = paintI (fun i => covF z (centI z X) (centI z Y) (F i)) (fun i => (F i).id) k := fun k hk => by
      induction k with
      | zero => rfl
      | succ k ih =>
        obtain ⟨i1, i2, i3, i4, i5, i6, i7, i8, i9⟩ := h k (by omega)
        have ec : covF z (centI z X) (centI z Y) (G k) = covF z (centI z X) (centI z Y) (F k) := by unfold covF; rw [i3, i4, i5, i6, i7]
        rw [paintI, paintI, ih (by omega), ec, i1]
    exact this n (Nat.le_refl _)
  exact ⟨e3, by unfold rtL; rw [e3, e4]⟩
end Go.Proofs.YtciidkmonfmipaaGreat
/- The laws of CacheFault, HasTile and NearestIn return true at every cache and every ref. -/

namespace Go.Proofs.YtciidkmonfmipaaGreat
open Go.RowKit
set_option linter.unusedSimpArgs false
set_option linter.unusedVariables false
set_option maxRecDepth 100000

theorem KpOwn.feats {w : World} {B : Nat} {k a : Kp} (h : KpOwn w B k a) : ∀ i, i < k.fn → (a.F i).same (k.F i) := by
  obtain ⟨_, ⟨fb, _, _, _, ho⟩, _⟩ := h
  exact fun i hi => (ho.2.2.2 i hi).1
theorem KpOwn.rt {w : World} {B : Nat} {k a : Kp} (h : KpOwn w B k a) : rtC a.z a.x a.y a.fn a.F = rtC k.z k.x k.y k.fn k.F ∧ rtL a.z a.x a.y a.fn a.F = rtL k.z k.x k.y k.fn k.F := by
  have hf := h.feats
  obtain ⟨⟨e1, e2, e3⟩, ⟨fb, _, e4, _⟩, _⟩ := h
  rw [e1, e2, e3, e4]
  exact rt_same hf
theorem KpOwn.tC {w : World} {B : Nat} {k a : Kp} (h : KpOwn w B k a) : Go.Proofs.YtciidkmonfmipaaGreat.tC a = Go.Proofs.YtciidkmonfmipaaGreat.tC k := by
  obtain ⟨r1, r2⟩ := h.rt
  obtain ⟨_, _, ib, _, e5, _, e7, _⟩ := h
  unfold Go.Proofs.YtciidkmonfmipaaGreat.tC
  rw [r1, r2, e5, e7]
theorem KpOwn.small {w : World} {B : Nat} {k a : Kp} (h : KpOwn w B k a) (hs : SmallK k) : SmallK a := by
  have hf := h.feats
  obtain ⟨_, ⟨fb, _, e4, _⟩, ib, _, e5, _⟩ := h
  refine ⟨⟨by rw [e4]; exact hs.1.1, fun i hi => ?_⟩, by rw [e5]; exact hs.2⟩
  rw [e4] at hi
  obtain ⟨_, _, _, _, f5, _, _, f8, _⟩ := hf i hi
  rw [f5, f8]
  exact hs.1.2 i hi
theorem OwnKs.small {w : World} {B b n : Nat} {K A : Nat → Kp} (h : OwnKs w B b n K A) (hs : SmallKs n K) : SmallKs n A := ⟨hs.1, fun i hi => (h.2.2 i hi).2.small (hs.2 i hi)⟩
theorem OwnKs.caps {w : World} {B b n : Nat} {K A : Nat → Kp} (h : OwnKs w B b n K A) : ∀ i, i < n → (A i).fn ≤ (A i).fc := fun i hi => by
  obtain ⟨_, ⟨fb, _, e4, e6, _⟩, _⟩ := (h.2.2 i hi).2
  rw [e4, e6]; exact Nat.le_refl _
theorem OwnKs.ref {w : World} {B b n : Nat} {K A : Nat → Kp} (h : OwnKs w B b n K A) {i : Nat} (hi : i < n) : (A i).z = (K i).z ∧ (A i).x = (K i).x ∧ (A i).y = (K i).y := (h.2.2 i hi).2.1
theorem OwnKs.atK {w : World} {B b n : Nat} {K A : Nat → Kp} (h : OwnKs w B b n K A) (z x y : Int) : ∀ m, m ≤ n → Go.Proofs.YtciidkmonfmipaaGreat.atK m A z x y = Go.Proofs.YtciidkmonfmipaaGreat.atK m K z x y := fun m hm => by
  have e : ∀ i, i < m → isK (A i) z x y = isK (K i) z x y := fun i hi => by
    obtain ⟨e1, e2, e3⟩ := h.ref (show i < n by omega)
    unfold isK; rw [e1, e2, e3]
  unfold Go.Proofs.YtciidkmonfmipaaGreat.atK
  rcases firstI_or (fun i => isK (A i) z x y) m with ⟨h1, h2⟩ | ⟨i, hi, hg, hf, hn⟩
  · rw [h1]
    exact (firstI_no (fun i hi => (e i hi).symm.trans (h2 i hi))).symm
  · rw [hf]
    exact (firstI_yes hi ((e i hi).symm.trans hg) (fun j hj => (e j (by omega)).symm.trans (hn j hj))).symm
theorem OwnKs.kC {w : World} {B b n : Nat} {K A : Nat → Kp} (h : OwnKs w B b n K A) : ∀ i, i < n → Go.Proofs.YtciidkmonfmipaaGreat.kC A i = Go.Proofs.YtciidkmonfmipaaGreat.kC K i := fun i hi => by
  obtain ⟨e1, e2, e3⟩ := h.ref hi
  unfold Go.Proofs.YtciidkmonfmipaaGreat.kC
  rw [(h.2.2 i hi).2.tC, e1, e2, e3, h.atK _ _ _ i (by omega)]
theorem OwnKs.cacheC {w : World} {B b n : Nat} {K A : Nat → Kp} (h : OwnKs w B b n K A) (s : Int) : Go.Proofs.YtciidkmonfmipaaGreat.cacheC s n A = Go.Proofs.YtciidkmonfmipaaGreat.cacheC s n K := by
  have e : scanC (Go.Proofs.YtciidkmonfmipaaGreat.kC A) 0 n = scanC (Go.Proofs.YtciidkmonfmipaaGreat.kC K) 0 n := by
    by_cases hall : ∀ j, j < n → Go.Proofs.YtciidkmonfmipaaGreat.kC K j = 0
    · rw [scan_none _ _ _ (fun j _ hj => hall j (by omega)), scan_none _ _ _ (fun j _ hj => (h.kC j (by omega)).trans (hall j (by omega)))]
    · obtain ⟨k, hk, hne, hno⟩ : ∃ k, k < n ∧ Go.Proofs.YtciidkmonfmipaaGreat.kC K k ≠ 0 ∧ ∀ l, l < k → Go.Proofs.YtciidkmonfmipaaGreat.kC K l = 0 := by
        have : ∀ m, (∃ i, i < m ∧ Go.Proofs.YtciidkmonfmipaaGreat.kC K i ≠ 0) → ∃ i, i < m ∧ Go.Proofs.YtciidkmonfmipaaGreat.kC K i ≠ 0 ∧ ∀ l, l < i → Go.Proofs.YtciidkmonfmipaaGreat.kC K l = 0 := by
          intro m
          induction m with
          | zero => rintro ⟨i, hi, _⟩; omega
          | succ m ih =>
            rintro ⟨i, hi, h⟩
            by_cases hx : ∃ i, i < m ∧ Go.Proofs.YtciidkmonfmipaaGreat.kC K i ≠ 0
            · obtain ⟨i, h1, h2⟩ := ih hx; exact ⟨i, by omega, h2⟩
            · refine ⟨i, hi, h, fun l hl => ?_⟩
              by_cases e : Go.Proofs.YtciidkmonfmipaaGreat.kC K l = 0
              · exact e
              · exact absurd ⟨l, by omega, e⟩ hx
        refine this n ?_
        by_cases hx : ∃ i, i < n ∧ Go.Proofs.YtciidkmonfmipaaGreat.kC K i ≠ 0
        · exact hx
        · exact absurd (fun j hj => by
            by_cases e : Go.Proofs.YtciidkmonfmipaaGreat.kC K j = 0
            · exact e
            · exact absurd ⟨j, hj, e⟩ hx) hall
      rw [scan_first (Go.Proofs.YtciidkmonfmipaaGreat.kC K) n 0 k (fun l _ hl => hno l hl) (by omega) (by omega) hne,
        scan_first (Go.Proofs.YtciidkmonfmipaaGreat.kC A) n 0 k (fun l _ hl => (h.kC l (by omega)).trans (hno l hl)) (by omega) (by omega) (by rw [h.kC k hk]; exact hne), h.kC k hk]
  unfold Go.Proofs.YtciidkmonfmipaaGreat.cacheC
  rw [e]
end Go.Proofs.YtciidkmonfmipaaGreat
/- TakeTile: both answers said alike; what is marked of an answer with a cache. -/

namespace Go.Proofs.YtciidkmonfmipaaGreat
open Go.RowKit
set_option linter.unusedSimpArgs false
set_option linter.unusedVariables false
set_option maxRecDepth 100000

theorem KsSm.of_same {w : World} {a : Option Addr} {n : Nat} {K K' R : Nat → Kp} (h : KsSm w a n K R) (hs : ∀ i, i < n → (K i).z = (K' i).z ∧ (K i).x = (K' i).x ∧ (K i).y = (K' i).y ∧ (K i).fn = (K' i).fn ∧ (K i).m = (K' i).m ∧ (K i).I = (K' i).I ∧ ∀ j, j < (K i).fn → ((K i).F j).same ((K' i).F j)) : KsSm w a n K' R := by
  refine h.imp id (fun ⟨g, e, h1, h2⟩ => ⟨g, e, h1, fun i hi => ⟨(h2 i hi).1, ?_⟩⟩)
  obtain ⟨⟨a1, a2, a3⟩, b1, b2, ⟨c1, c2⟩, d⟩ := (h2 i hi).2
  obtain ⟨e1, e2, e3, e4, e5, e6, e7⟩ := hs i hi
  refine ⟨⟨a1.trans e1, a2.trans e2, a3.trans e3⟩, b1.trans e4, b2.trans e5, ⟨by rw [← e4]; exact c1, fun j hj => Feat.same_trans (c2 j (by omega)) (e7 j (by omega))⟩, ?_⟩
  rw [← e5, ← e6]; exact d
theorem CaNew.sm {w : World} {B : Nat} {a : Option Addr} {n : Nat} {KL R : Nat → Kp} (h : CaNew w B a n KL R) : KsSm w a n KL R := by
  rcases h with h | ⟨g, M, e, hB, hA, hT, hg, hM, hMn⟩
  · exact .inl h
  have h0n := upM (M := M) (n := n) (fun j hj => (hM j hj).1) (Nat.zero_le n) (Nat.le_refl _)
  refine .inr ⟨g, e, by omega, fun i hi => ⟨?_, ?_⟩⟩
  · have := hA i hi
    rw [if_pos hi] at this
    exact this
  · have hin := upM (M := M) (n := n) (fun j hj => (hM j hj).1) (show i + 1 ≤ n by omega) (Nat.le_refl _)
    obtain ⟨_, h1, h2, h3, h4, md, h5, h6, ⟨f1, f2, _⟩, h8⟩ := hM i hi
    refine ⟨h1, h2, h3, ⟨by rw [← h2] at f1 ⊢; exact f1, fun j hj => (f2 j hj).1⟩, ?_⟩
    rcases h8 with h8 | ⟨ib, e1, _, e2, e3, _⟩
    · exact .inl h8
    · rw [e1]; exact e3.is (by omega)
theorem CaNew.mid {w w' : World} {B : Nat} {a : Option Addr} {n : Nat} {KL R : Nat → Kp} {l h' : Nat} (h : CaNew w B a n KL R) (hM : MidB l h' w w') (hh : h' ≤ B) : CaNew w' B a n KL R := by
  refine h.imp id (fun ⟨g, M, e, hB, hA, hT, hg, hK, hMn⟩ => ⟨g, M, e, hB, fun j hj => ?_, hM.there hT (.inr (by omega)), hg, fun j hj => ⟨(hK j hj).1, (hK j hj).2.mid hM ?_⟩, Nat.le_trans hMn hM.size⟩)
  · obtain ⟨q0, q1, q2, q3, q4⟩ := hA j hj
    exact ⟨hM.cell q0 (.inr (by omega)), hM.cell q1 (.inr (by omega)), hM.cell q2 (.inr (by omega)), hM.cell q3 (.inr (by omega)), hM.cell q4 (.inr (by omega))⟩
  · have := upM (M := M) (n := n) (fun j hj => (hK j hj).1) (Nat.zero_le j) (by omega)
    omega
theorem CaNew.below {w w' : World} {B : Nat} {a : Option Addr} {n : Nat} {KL R : Nat → Kp} (h : CaNew w B a n KL R) (hb : Below w.heap.size w w') : CaNew w' B a n KL R := h.mid (MidB.of_below (lo := 0) (hi := 0) hb) (Nat.zero_le _)
theorem CaNew.small {w : World} {B : Nat} {a : Option Addr} {n : Nat} {KL R : Nat → Kp} (h : CaNew w B a n KL R) (hs : SmallKs n KL) : SmallKs n R := by
  refine ⟨hs.1, fun i hi => ?_⟩
  rcases h with h | ⟨g, M, e, hB, hA, hT, hg, hM, hMn⟩
  · omega
  obtain ⟨_, h1, h2, h3, h4, md, h5, h6, ⟨f1, f2, _⟩, h8⟩ := hM i hi
  have hk := hs.2 i hi
  refine ⟨⟨by rw [h2]; exact hk.1.1, fun j hj => ?_⟩, by rw [h3]; exact hk.2⟩
  rw [h2] at hj
  obtain ⟨_, _, _, _, g5, _, _, g8, _⟩ := (f2 j hj).1
  rw [g5, g8]
  exact hk.1.2 j hj
/-- What an answer with a cache may have written: its blocks from B up to hi. -/
def CrW (w : World) (B hi : Nat) (a : Option Addr) (n : Nat) (R : Nat → Kp) : Prop := n = 0 ∨ ∃ g M, a = some ⟨g, 0, none⟩ ∧ B ≤ g ∧ KsW w g n R M ∧ M n ≤ hi
/-- .. and bears the marks from 1 on. -/
def CrM (w : World) (B hi : Nat) (a : Option Addr) (n : Nat) (R : Nat → Kp) : Prop := n = 0 ∨ ∃ g M, a = some ⟨g, 0, none⟩ ∧ B ≤ g ∧ KsM w g n R M 1 ∧ M n ≤ hi
theorem CaNew.crw {w : World} {B : Nat} {a : Option Addr} {n : Nat} {KL R : Nat → Kp} (h : CaNew w B a n KL R) : CrW w B w.heap.size a n R := by
  refine h.imp id (fun ⟨g, M, e, hB, hA, hT, hg, hM, hMn⟩ => ⟨g, M, e, hB, ⟨hT, hg, fun j hj => ⟨(hM j hj).1, ?_, ?_⟩, hMn⟩, hMn⟩)
  · have := hA j hj
    rw [if_pos hj] at this
    exact ⟨this.2.2.2.1, this.2.2.2.2⟩
  · have hin := upM (M := M) (n := n) (fun j hj => (hM j hj).1) (show j + 1 ≤ n by omega) (Nat.le_refl _)
    obtain ⟨_, h1, h2, h3, h4, md, h5, h6, ⟨_, _, f3⟩, h8⟩ := hM j hj
    refine ⟨md, h5, h6, by omega, ?_, ?_⟩
    · rw [h2]; exact f3
    · rw [h3]; exact h8.imp id (fun ⟨ib, e1, e2, e3, _, e5⟩ => ⟨ib, e1, e2, e3, e5⟩)
theorem CrW.mid {w w' : World} {B hi : Nat} {a : Option Addr} {n : Nat} {R : Nat → Kp} {l h' : Nat} (h : CrW w B hi a n R) (hM : MidB l h' w w') (hh : h' ≤ B) : CrW w' B hi a n R := h.imp id (fun ⟨g, M, e, hB, hK, hMn⟩ => ⟨g, M, e, hB, hK.mid hM (.inl (by omega)), hMn⟩)
theorem CrW.below {w w' : World} {B hi : Nat} {a : Option Addr} {n : Nat} {R : Nat → Kp} (h : CrW w B hi a n R) (hb : Below w.heap.size w w') : CrW w' B hi a n R := h.mid (MidB.of_below (lo := 0) (hi := 0) hb) (Nat.zero_le _)
theorem CrM.below {w w' : World} {B hi : Nat} {a : Option Addr} {n : Nat} {R : Nat → Kp} (h : CrM w B hi a n R) (hb : Below w.heap.size w w') : CrM w' B hi a n R := h.imp id (fun ⟨g, M, e, hB, hK, hMn⟩ => ⟨g, M, e, hB, hK.below hb, hMn⟩)
theorem markKeptS_zero (a : Option Addr) (c k : Int) (cap : Nat) (w : World) : Calls Tryz.prog 38 #[.slice a 0 cap, .int .i64 k] w fun e w' => e = .returned (.int .i64 k) ∧ w = w' := by
  go_enter Tryz.func38, Tryz.ntmps38
  go_wp2_with fail
  go_loopw [1, 5] (fun kk i wr => kk = .int .i64 k ∧ i = .int .i64 0 ∧ w = wr) (fun _ _ _ => 0)
  case atStart => exact ⟨rfl, rfl, rfl⟩
  case round =>
    obtain ⟨rfl, rfl, rfl⟩ := hrel
    go_wp2
    go_ret
    exact ⟨rfl, rfl⟩
theorem markKeptS_cr (B hi : Nat) (a : Option Addr) (n cap : Nat) (R : Nat → Kp) (w : World) (h : CrW w B hi a n R) (hs : SmallKs n R) : Calls Tryz.prog 38 #[.slice a n cap, .int .i64 1] w fun e w' => e = .returned (.int .i64 ((kK R 1 n : Nat) : Int)) ∧ CrM w' B hi a n R ∧ MidB B hi w w' := by
  rcases h with rfl | ⟨g, M, rfl, hB, hK, hMn⟩
  · refine (markKeptS_zero a 0 1 cap w).mono ?_
    rintro e w' ⟨rfl, rfl⟩
    exact ⟨rfl, .inl rfl, MidB.refl _ _ _⟩
  · refine (markKeptS_any g n cap 1 R M w hK hs (by omega) (by omega)).mono ?_
    rintro e w' ⟨rfl, h1, h2⟩
    exact ⟨rfl, .inr ⟨g, M, rfl, hB, h1, hMn⟩, h2.wide hB hMn⟩
set_option maxHeartbeats 2000000 in
theorem markCache_cr (s : Int) (B hi : Nat) (a : Option Addr) (n cap : Nat) (R : Nat → Kp) (w : World) (h : CrW w B hi a n R) (hs : SmallKs n R) : Calls Tryz.prog 15 #[caV s (.slice a n cap), .int .i64 1] w fun e w' => e = .returned (.int .i64 ((kK R 1 n : Nat) : Int)) ∧ CrM w' B hi a n R ∧ MidB B hi w w' := by
  have HM : Hid (∀ V, Below w.heap.size w V → Calls Tryz.prog 38 #[.slice a n cap, .int .i64 1] V fun e w' => e = .returned (.int .i64 ((kK R 1 n : Nat) : Int)) ∧ CrM w' B hi a n R ∧ MidB B hi V w') := fun V hb => markKeptS_cr B hi a n cap R V (h.below hb) hs
  clear h hs
  generalize hq : kK R 1 n = q at *
  go_enter Tryz.func15, Tryz.ntmps15
  go_wp2_with fail
  generalize hV : (w.alloc _ : World) = V
  have HB : Hid (Below w.heap.size w V) := by show Below _ _ _; subst hV; (repeat (first | exact Below.refl _ _ | assumption | refine Below.drew ?_ | refine bl_alloc ?_ _ | refine bl_then ?_ (by assumption) | refine Below.setCell ?_ (by first | omega | (simp; done) | (simp; omega)) _ | refine bl_store ?_ ?_ _ _))
  clear hV
  refine Calls.mono (HM.out V HB.out) ?_
  rintro e w1 ⟨rfl, h1, h2⟩
  have H1 : Hid (CrM w1 B hi a n R) := h1
  have H2 : Hid (MidB B hi w w1) := (MidB.of_below HB.out).trans h2
  clear h1 h2
  go_wp2
  go_ret
  exact ⟨rfl, H1.out, H2.out⟩
set_option maxHeartbeats 2000000 in
theorem markCacheResult_cr (co s : Int) (B hi : Nat) (a : Option Addr) (n cap : Nat) (R : Nat → Kp) (w : World) (h : CrW w B hi a n R) (hs : SmallKs n R) : Calls Tryz.prog 17 #[crcV co s (.slice a n cap), .int .i64 1] w fun e w' => e = .returned (.int .i64 ((kK R 1 n : Nat) : Int)) ∧ CrM w' B hi a n R ∧ MidB B hi w w' := by
  have HM : Hid (∀ V, Below w.heap.size w V → Calls Tryz.prog 15 #[caV s (.slice a n cap), .int .i64 1] V fun e w' => e = .returned (.int .i64 ((kK R 1 n : Nat) : Int)) ∧ CrM w' B hi a n R ∧ MidB B hi V w') := fun V hb => markCache_cr s B hi a n cap R V (h.below hb) hs
  clear h hs
  generalize hq : kK R 1 n = q at *
  go_enter Tryz.func17, Tryz.ntmps17
  go_wp2_with fail
  generalize hV : (w.alloc _ : World) = V
  have HB : Hid (Below w.heap.size w V) := by show Below _ _ _; subst hV; (repeat (first | exact Below.refl _ _ | assumption | refine Below.drew ?_ | refine bl_alloc ?_ _ | refine bl_then ?_ (by assumption) | refine Below.setCell ?_ (by first | omega | (simp; done) | (simp; omega)) _ | refine bl_store ?_ ?_ _ _))
  clear hV
  refine Calls.mono (HM.out V HB.out) ?_
  rintro e w1 ⟨rfl, h1, h2⟩
  have H1 : Hid (CrM w1 B hi a n R) := h1
  have H2 : Hid (MidB B hi w w1) := (MidB.of_below HB.out).trans h2
  clear h1 h2
  go_wp2
  go_ret
  exact ⟨rfl, H1.out, H2.out⟩
theorem heldKeptS_zero (a : Option Addr) (k : Int) (cap : Nat) (w : World) : Calls Tryz.prog 76 #[.slice a 0 cap, .int .i64 k] w fun e w' => e = .returned (.int .i64 k) ∧ w = w' := by
  go_enter Tryz.func76, Tryz.ntmps76
  go_wp2_with fail
  go_loopw [1, 5] (fun kk i wr => kk = .int .i64 k ∧ i = .int .i64 0 ∧ w = wr) (fun _ _ _ => 0)
  case atStart => exact ⟨rfl, rfl, rfl⟩
  case round =>
    obtain ⟨rfl, rfl, rfl⟩ := hrel
    go_wp2
    go_ret
    exact ⟨rfl, rfl⟩
theorem heldKeptS_cr (B hi : Nat) (a : Option Addr) (n cap : Nat) (R : Nat → Kp) (w : World) (h : CrM w B hi a n R) (hs : SmallKs n R) : Calls Tryz.prog 76 #[.slice a n cap, .int .i64 1] w fun e w' => e = .returned (.int .i64 ((kK R 1 n : Nat) : Int)) ∧ Below w.heap.size w w' := by
  rcases h with rfl | ⟨g, M, rfl, hB, hK, hMn⟩
  · refine (heldKeptS_zero a 1 cap w).mono ?_
    rintro e w' ⟨rfl, rfl⟩
    exact ⟨rfl, Below.refl _ _⟩
  · exact heldKeptS_any g n cap 1 R M w hK hs (by omega) (by omega)
set_option maxHeartbeats 2000000 in
theorem heldCacheResult_cr (co s : Int) (B hi : Nat) (a : Option Addr) (n cap : Nat) (R : Nat → Kp) (w : World) (h : CrM w B hi a n R) (hs : SmallKs n R) : Calls Tryz.prog 18 #[crcV co s (.slice a n cap), .int .i64 1] w fun e w' => e = .returned (.int .i64 ((kK R 1 n : Nat) : Int)) ∧ Below w.heap.size w w' := by
  have HM : Hid (∀ V, Below w.heap.size w V → Calls Tryz.prog 40 #[caV s (.slice a n cap), .int .i64 1] V fun e w' => e = .returned (.int .i64 ((kK R 1 n : Nat) : Int)) ∧ Below V.heap.size V w') := fun V hb => by
    have HK : Hid (∀ U, Below V.heap.size V U → Calls Tryz.prog 76 #[.slice a n cap, .int .i64 1] U fun e w' => e = .returned (.int .i64 ((kK R 1 n : Nat) : Int)) ∧ Below U.heap.size U w') := fun U hu => heldKeptS_cr B hi a n cap R U (h.below (bl_then hb hu)) hs
    clear h hs
    generalize hq : kK R 1 n = q at *
    clear hq
    go_enter Tryz.func40, Tryz.ntmps40
    go_wp2_with fail
    generalize hU : (V.alloc _ : World) = U
    have HB : Hid (Below V.heap.size V U) := by show Below _ _ _; subst hU; (repeat (first | exact Below.refl _ _ | assumption | refine Below.drew ?_ | refine bl_alloc ?_ _ | refine bl_then ?_ (by assumption) | refine Below.setCell ?_ (by first | omega | (simp; done) | (simp; omega)) _ | refine bl_store ?_ ?_ _ _))
    clear hU
    refine Calls.mono (HK.out U HB.out) ?_
    rintro e w1 ⟨rfl, h2⟩
    have H2 : Hid (Below V.heap.size V w1) := bl_then HB.out h2
    clear h2
    go_wp2
    go_ret
    exact ⟨rfl, H2.out⟩
  clear h hs
  generalize hq : kK R 1 n = q at *
  go_enter Tryz.func18, Tryz.ntmps18
  go_wp2_with fail
  generalize hV : (w.alloc _ : World) = V
  have HB : Hid (Below w.heap.size w V) := by show Below _ _ _; subst hV; (repeat (first | exact Below.refl _ _ | assumption | refine Below.drew ?_ | refine bl_alloc ?_ _ | refine bl_then ?_ (by assumption) | refine Below.setCell ?_ (by first | omega | (simp; done) | (simp; omega)) _ | refine bl_store ?_ ?_ _ _))
  clear hV
  refine Calls.mono (HM.out V HB.out) ?_
  rintro e w1 ⟨rfl, h2⟩
  have H2 : Hid (Below w.heap.size w w1) := bl_then HB.out h2
  clear h2
  go_wp2
  go_ret
  exact ⟨rfl, H2.out⟩
/-- Kept tiles that lie below T. -/
def UndK (T : Nat) (w : World) (a : Option Addr) (n : Nat) (K R : Nat → Kp) : Prop := ∃ W, T = W.heap.size ∧ KsSm W a n K R ∧ Below T W w
theorem UndK.below {T : Nat} {w w' : World} {a : Option Addr} {n : Nat} {K R : Nat → Kp} (h : UndK T w a n K R) (hb : Below T w w') : UndK T w' a n K R := by
  obtain ⟨W, e, h1, h2⟩ := h
  exact ⟨W, e, h1, h2.trans hb⟩
theorem UndK.is {T : Nat} {w : World} {a : Option Addr} {n : Nat} {K R : Nat → Kp} (h : UndK T w a n K R) : KsSm w a n K R := by
  obtain ⟨W, e, h1, h2⟩ := h
  subst e
  exact h1.below h2
end Go.Proofs.YtciidkmonfmipaaGreat
/- What a cache has behind a tile that is put: plain facts. -/

namespace Go.Proofs.YtciidkmonfmipaaGreat
open Go.RowKit
set_option linter.unusedSimpArgs false
set_option linter.unusedVariables false
set_option maxRecDepth 100000

/-- How many places go ahead: one, where there is no room. -/
def putO (n : Nat) (A : Nat → Kp) (s z x y : Int) : Nat := if (((lessI n A z x y).length + 1 : Nat) : Int) ≤ s then 0 else 1
/-- How many tiles there are then. -/
def putM (n : Nat) (A : Nat → Kp) (s z x y : Int) : Nat := (lessI n A z x y).length + 1 - putO n A s z x y
/-- The tiles that are there behind one that is put. -/
def putK (n : Nat) (A : Nat → Kp) (s : Int) (k0 : Kp) (j : Nat) : Kp := if j + putO n A s k0.z k0.x k0.y < (lessI n A k0.z k0.x k0.y).length then A ((lessI n A k0.z k0.x k0.y).getD (j + putO n A s k0.z k0.x k0.y) 0) else k0
theorem putL_agL (n : Nat) (A : Nat → Kp) (s : Int) (k0 : Kp) (t : Int) : putL s (agL A n) (agK k0 t) = ((lessI n A k0.z k0.x k0.y).map (fun i => agK (A i) ((i : Int) + 1)) ++ [agK k0 t]).drop (putO n A s k0.z k0.x k0.y) := by
  unfold putL putO
  have e : lessL (agL A n) (agK k0 t).z (agK k0 t).x (agK k0 t).y = (lessI n A k0.z k0.x k0.y).map (fun i => agK (A i) ((i : Int) + 1)) := lessL_agL A n k0.z k0.x k0.y
  rw [e]
  have hl : ((lessI n A k0.z k0.x k0.y).map (fun i => agK (A i) ((i : Int) + 1)) ++ [agK k0 t]).length = (lessI n A k0.z k0.x k0.y).length + 1 := by simp
  rw [hl]
  split
  · rfl
  · rw [List.drop_one]
theorem putL_len (n : Nat) (A : Nat → Kp) (s : Int) (k0 : Kp) (t : Int) : (putL s (agL A n) (agK k0 t)).length = putM n A s k0.z k0.x k0.y := by
  rw [putL_agL, List.length_drop]
  simp [putM]
theorem putL_at (n : Nat) (A : Nat → Kp) (s : Int) (k0 : Kp) (t : Int) (i : Nat) (a : Ag) (hi : (putL s (agL A n) (agK k0 t))[i]? = some a) : ∃ t', a = agK (putK n A s k0 i) t' := by
  rw [putL_agL, List.getElem?_drop] at hi
  unfold putK
  rw [Nat.add_comm] at hi
  generalize putO n A s k0.z k0.x k0.y = d at *
  by_cases hil : i + d < (lessI n A k0.z k0.x k0.y).length
  · rw [if_pos hil]
    rw [List.getElem?_append_left (by simpa using hil), List.getElem?_map, List.getElem?_eq_getElem hil] at hi
    simp at hi
    refine ⟨(((lessI n A k0.z k0.x k0.y)[i + d] : Nat) : Int) + 1, ?_⟩
    simp [List.getD_eq_getElem?_getD, hil, hi]
  · rw [if_neg hil]
    rw [List.getElem?_append_right (by simp; omega)] at hi
    have hie : i + d = (lessI n A k0.z k0.x k0.y).length := by
      have := (List.getElem?_eq_some_iff.1 hi).1
      simp at this
      omega
    rw [hie] at hi
    exact ⟨t, by simpa using hi.symm⟩
theorem putK_src {w : World} {n : Nat} {A : Nat → Kp} {s : Int} {k0 : Kp} (hA : ∀ i, i < n → SrcK w (A i)) (h0 : SrcK w k0) (j : Nat) : SrcK w (putK n A s k0 j) := by
  unfold putK
  split
  · rename_i h
    refine hA _ (lessI_mem (A := A) (z := k0.z) (x := k0.x) (y := k0.y) ?_)
    rw [List.getD_eq_getElem?_getD, List.getElem?_eq_getElem h]
    exact List.getElem_mem _
  · exact h0
/-- The code of a tile that is put into a cache. -/
noncomputable def puC (s : Int) (n : Nat) (A : Nat → Kp) (z x y : Int) (fn : Nat) (F : Nat → Feat) : Int := if cacheC s n A = 0 then rtC z x y fn F else cacheC s n A
end Go.Proofs.YtciidkmonfmipaaGreat
