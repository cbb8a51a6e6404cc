/- Several texts in one. -/
import Derived.Test.YtciidkmonfmipaaGreatVTakeTile19
import Derived.Test.YtciidkmonfmipaaGreatVTakeTile21
import Derived.Test.YtciidkmonfmipaaGreatVTakeTile6
import Derived.Laws.OwnMore
import Derived.Test.YtciidkmonfmipaaGreatVTakeTile8
import Derived.Test.YtciidkmonfmipaaGreatVTakeTile1
import Derived.Test.YtciidkmonfmipaaGreatRows
import Derived.WalkSpells
import Derived.WalkLawsBesides
import Derived.Outline
import Derived.Laws.IdiomStrings

/- The fault of a list of features: the program's. -/

namespace Go.Proofs.YtciidkmonfmipaaGreat
open Go.RowKit
set_option linter.unusedSimpArgs false
set_option linter.unusedVariables false
set_option maxRecDepth 100000

set_option maxHeartbeats 4000000 in
theorem FeaturesFault_any (b n cap : Nat) (G : Nat → Feat) (w : World) (hg : FsAt w b 0 n G) (hbl : b < w.heap.size) (hs : SmallFs n G) (hcap : n ≤ cap) :
    Calls Tryz.prog 62 #[.slice (some ⟨b, 0, none⟩) n cap] w fun e w' => e = .returned (.int .i64 (featsC n G)) ∧ Below w.heap.size w w' := by
  have HG : Hid (FsAt w b 0 n G) := hg
  have HS : Hid (SmallFs n G) := hs
  have hn := hs.1
  clear hg hs
  by_cases h12 : (12 : Int) < n
  · have hz : Hid (featsC n G = 2) := by show _ = _; unfold featsC; rw [if_pos (by omega)]
    go_enter Tryz.func62, Tryz.ntmps62
    go_wp2
    go_ret
    exact ⟨ret_int hz.out.symm, by (repeat (first | exact Below.refl _ _ | assumption | refine Below.drew ?_ | refine bl_alloc ?_ _ | refine bl_then ?_ (by assumption) | refine Below.setCell ?_ (by first | omega | (simp; done) | (simp; omega)) _ | refine bl_store ?_ ?_ _ _))⟩
  · have hz : Hid (featsC n G = scanC (codeAt G) 0 n) := by show _ = _; unfold featsC; rw [if_neg (by omega)]
    go_enter Tryz.func62, Tryz.ntmps62
    go_wp2
    go_loopw [11] (fun v wr => ∃ k : Nat, k ≤ n ∧ v = .int .i64 k ∧ (∀ j, j < k → codeAt G j = 0) ∧ Below w.heap.size w wr) (fun v _ => n - (intOf v).toNat)
    case atStart => exact ⟨0, by omega, rfl, by omega, Below.refl _ _⟩
    case round =>
      obtain ⟨k, hk, rfl, hA, hB⟩ := hrel
      have HB : Hid (Below w.heap.size w wr) := hB
      have HA : Hid (∀ j, j < k → codeAt G j = 0) := hA
      by_cases hlt : k < n
      · have HGr : Hid (FsAt wr b 0 n G) := HG.out.below hB hbl
        have hblr : b < wr.heap.size := Nat.lt_of_lt_of_le hbl hB.size
        obtain ⟨⟨f0, f1, f2, f3, f4, f5, f6⟩, hP⟩ := HGr.out k hlt
        simp only [Nat.zero_add] at f0 f1 f2 f3 f4 f5 f6
        have HP : Hid (IsPts wr (G k).a (G k).n (G k).X (G k).Y) := hP
        obtain ⟨z1, z2⟩ := HS.out.2 k hlt
        have HLT : Hid (k < n) := hlt
        clear hB hA hP
        have hi : (k : Int) < (n : Int) := by omega
        have hi0 : (0 : Int) ≤ (k : Int) := by omega
        go_wp2_with fail
        generalize hV : (wr.alloc _ : World) = V
        have hBV : Below wr.heap.size wr V := by subst hV; (repeat (first | exact Below.refl _ _ | assumption | refine Below.drew ?_ | refine bl_alloc ?_ _ | refine bl_then ?_ (by assumption) | refine Below.setCell ?_ (by first | omega | (simp; done) | (simp; omega)) _ | refine bl_store ?_ ?_ _ _))
        have v0 : ∀ W', Below V.heap.size V W' → W'.cell? ⟨wr.heap.size, 0, none⟩ = some (.int .i64 (G k).id) := fun W' h => by
          rw [h.cell (by subst hV; simp)]; subst hV; simp [go_sem]
        clear hV
        have HBV : Hid (Below w.heap.size w V) := bl_then HB.out hBV
        have HGV : Hid (FsAt V b 0 n G) := HGr.out.below hBV hblr
        have hblV : b < V.heap.size := Nat.lt_of_lt_of_le hblr hBV.size
        have HPV : Hid (IsPts V (G k).a (G k).n (G k).X (G k).Y) := HP.out.below hBV
        clear hBV f0 f1 f2 f3 f4 f5 f6 HP HGr
        refine (FeatureFault_any _ _ _ _ _ _ _ (G k).X (G k).Y _ _ _ HPV.out z2 z1).mono ?_
        rintro e w1 ⟨rfl, hb1⟩
        by_cases hc : featC (G k).id (G k).la (G k).ki (G k).wi (G k).n (G k).X (G k).Y (G k).lab (G k).pr = 0
        · rw [hc]
          have HC : Hid (featC (G k).id (G k).la (G k).ki (G k).wi (G k).n (G k).X (G k).Y (G k).lab (G k).pr = 0) := hc
          have HB1 : Hid (Below V.heap.size V w1) := hb1
          have hr1 : Below V.heap.size V w1 := hb1
          clear hc hb1
          have hk0 : (k : Int) ≤ (n : Int) := by omega
          have hkc : (k : Int) ≤ (cap : Int) := by omega
          by_cases hx : ∃ j, j < k ∧ (G j).id = (G k).id
          · have HH : Hid (∀ W', Below V.heap.size V W' → Calls Tryz.prog 92 #[.slice (some ⟨b, 0, none⟩) k cap, .int .i64 (G k).id] W' fun e w' => e = .returned (.bool true) ∧ Below W'.heap.size W' w') := fun W' h => by
              refine (hasId_any b k cap n G (G k).id W' (Nat.le_of_lt HLT.out) (HGV.out.below h hblV) (Nat.lt_of_lt_of_le hblV h.size) (by omega)).mono ?_
              rintro e w' ⟨⟨he, _⟩ | ⟨_, hno⟩, hb⟩
              · exact ⟨he, hb⟩
              · obtain ⟨j, hj, hje⟩ := hx
                exact absurd hje (hno j hj)
            have htk : Hid (codeAt G k = 6) := codeAt_taken HC.out hx
            have hsc : Hid (featsC n G = 6) := by
              show _ = _
              rw [hz.out, scan_first (codeAt G) n 0 k (fun j _ hj => HA.out j hj) (by omega) (by have := HLT.out; omega) (by rw [htk.out]; decide), htk.out]
            clear hx
            go_wp2_with fail
            go_region_held3 (fun W' => Below V.heap.size V W') ((repeat (first | exact Below.refl _ _ | assumption | refine Below.drew ?_ | refine bl_alloc ?_ _ | refine bl_then ?_ (by assumption) | refine Below.setCell ?_ (by first | omega | (simp; done) | (simp; omega)) _ | refine bl_store ?_ ?_ _ _)))
              (first | (go_at_call 92; refine (HH.out _ (by assumption)).mono ?_; rintro e w' ⟨rfl, hb⟩))
            go_wp2
            go_ret
            exact ⟨ret_int hsc.out.symm, bl_then HBV.out (by assumption)⟩
          · have HH : Hid (∀ W', Below V.heap.size V W' → Calls Tryz.prog 92 #[.slice (some ⟨b, 0, none⟩) k cap, .int .i64 (G k).id] W' fun e w' => e = .returned (.bool false) ∧ Below W'.heap.size W' w') := fun W' h => by
              refine (hasId_any b k cap n G (G k).id W' (Nat.le_of_lt HLT.out) (HGV.out.below h hblV) (Nat.lt_of_lt_of_le hblV h.size) (by omega)).mono ?_
              rintro e w' ⟨⟨_, hyes⟩ | ⟨he, _⟩, hb⟩
              · exact absurd hyes hx
              · exact ⟨he, hb⟩
            have HOK : Hid (codeAt G k = 0) := codeAt_ok HC.out hx
            clear hx
            go_wp2_with fail
            go_region_held3 (fun W' => Below V.heap.size V W') ((repeat (first | exact Below.refl _ _ | assumption | refine Below.drew ?_ | refine bl_alloc ?_ _ | refine bl_then ?_ (by assumption) | refine Below.setCell ?_ (by first | omega | (simp; done) | (simp; omega)) _ | refine bl_store ?_ ?_ _ _)))
              (first | (go_at_call 92; refine (HH.out _ (by assumption)).mono ?_; rintro e w' ⟨rfl, hb⟩))
            go_wp2
            go_roundw
            case rel => exact ⟨k + 1, by have := HLT.out; omega, by go_num, fun j hj => by
                by_cases e : j = k
                · rw [e]; exact HOK.out
                · exact HA.out j (by omega), bl_then HBV.out (by assumption)⟩
            case measure => have := HLT.out; simp [intOf]; omega
        · have hsc : Hid (featsC n G = featC (G k).id (G k).la (G k).ki (G k).wi (G k).n (G k).X (G k).Y (G k).lab (G k).pr) := by
            show _ = _
            have h6 := codeAt_fault hc
            rw [hz.out, scan_first (codeAt G) n 0 k (fun j _ hj => HA.out j hj) (by omega) (by have := HLT.out; omega) (by rw [h6]; exact hc), h6]
          have hcb : (featC (G k).id (G k).la (G k).ki (G k).wi (G k).n (G k).X (G k).Y (G k).lab (G k).pr == 0) = false := by simpa using hc
          have HB1 : Hid (Below w.heap.size w w1) := bl_then HBV.out hb1
          clear hc hb1
          go_wp2
          go_ret
          exact ⟨ret_int hsc.out.symm, HB1.out⟩
      · have hsc : Hid (featsC n G = 0) := by
          show _ = _
          rw [hz.out]
          exact scan_none _ _ _ (fun j _ hj => HA.out j (by omega))
        go_wp2
        go_ret
        exact ⟨ret_int hsc.out.symm, HB.out⟩
end Go.Proofs.YtciidkmonfmipaaGreat
/- RasterTile of the model. -/

namespace Go.Proofs.YtciidkmonfmipaaGreat
open Go.RowKit
set_option linter.unusedSimpArgs false
set_option linter.unusedVariables false
set_option maxRecDepth 100000

/-- The code of RasterTile, and its raster. -/
noncomputable def rtC (z x y : Int) (n : Nat) (G : Nat → Feat) : Int := if refC z x y = 0 then (if featsC n G = 0 then (if ordS n G = true then 0 else 1) else featsC n G) else refC z x y
noncomputable def rtL (z x y : Int) (n : Nat) (G : Nat → Feat) : List Int := if rtC z x y n G = 0 then rasK (paintF G n z) (x * 8) (y * 8) 64 else []
theorem there2t (w : World) (x y : Value) (t : TypeId) : There (w.alloc (.cells #[x, y] t)) w.heap.size 2 := fun o ho => by
  have : o = 0 ∨ o = 1 := by omega
  rcases this with rfl | rfl <;> exact ⟨⟨_, by simp [go_sem]; rfl⟩, by simp [go_sem]⟩
theorem set2t {W : World} {r : Nat} {a b : Value} (hT : There W r 2) :
    ((W.setCell ⟨r, 0, none⟩ a).setCell ⟨r, 1, none⟩ b).cell? ⟨r, 0, none⟩ = some a ∧ ((W.setCell ⟨r, 0, none⟩ a).setCell ⟨r, 1, none⟩ b).cell? ⟨r, 1, none⟩ = some b := by
  obtain ⟨u0, h0⟩ := (hT 0 (by omega)).1
  obtain ⟨u1, h1⟩ := (hT 1 (by omega)).1
  have ne : ∀ i j : Nat, i ≠ j → (⟨r, i, none⟩ : Addr) ≠ ⟨r, j, none⟩ := fun i j hij h => hij (by injection h)
  refine ⟨?_, ?_⟩
  · rw [set1_other (ne 1 0 (by omega))]; exact set1_same h0
  · exact set1_same (by rw [set1_other (ne 0 1 (by omega))]; exact h1)
theorem ownN_none (w : World) (base : Nat) : OwnN w base (.slice none 0 0) ([] : List Int).length (nz []) := ⟨none, 0, rfl, Nat.le_refl _, .inl rfl⟩
theorem rtC_zero {z x y : Int} {n : Nat} {G : Nat → Feat} (h : rtC z x y n G = 0) : refB z x y = true ∧ featsC n G = 0 ∧ ordS n G = true := by
  unfold rtC at h
  rcases refC_cases z x y with ⟨hc, hr⟩ | ⟨hc, hr⟩
  · rw [if_pos hc] at h
    by_cases hf : featsC n G = 0
    · rw [if_pos hf] at h
      cases ho : ordS n G
      · rw [ho] at h; simp at h
      · exact ⟨hr, hf, rfl⟩
    · rw [if_neg hf] at h; exact absurd h hf
  · rw [hc] at h; simp at h
end Go.Proofs.YtciidkmonfmipaaGreat
/- Which blocks are written, and what stays. -/

namespace Go.Proofs.YtciidkmonfmipaaGreat
open Go.RowKit
set_option linter.unusedSimpArgs false
set_option linter.unusedVariables false
set_option maxRecDepth 100000

/-- Only blocks from lo to hi are written. -/
structure MidB (lo hi : Nat) (w w' : World) : Prop where
  os : w'.os = w.os
  tape : w'.tape = w.tape
  output : w'.output = w.output
  size : w.heap.size ≤ w'.heap.size
  block : ∀ k, k < w.heap.size → (k < lo ∨ hi ≤ k) → w'.heap[k]? = w.heap[k]?
theorem MidB.refl (lo hi : Nat) (w : World) : MidB lo hi w w := ⟨rfl, rfl, rfl, Nat.le_refl _, fun _ _ _ => rfl⟩
theorem MidB.trans {lo hi : Nat} {a b c : World} (h : MidB lo hi a b) (k : MidB lo hi b c) : MidB lo hi a c :=
  ⟨k.os.trans h.os, k.tape.trans h.tape, k.output.trans h.output, Nat.le_trans h.size k.size, fun i hi ho => (k.block i (Nat.lt_of_lt_of_le hi h.size) ho).trans (h.block i hi ho)⟩
theorem MidB.of_below {lo hi : Nat} {a b : World} (h : Below a.heap.size a b) : MidB lo hi a b := ⟨h.os, h.tape, h.output, h.size, fun i hi _ => h.block i hi⟩
theorem MidB.of_grown {lo hi s : Nat} {a b : World} (h : a.grownBy b (some s)) (h1 : lo ≤ s) (h2 : s < hi) : MidB lo hi a b :=
  ⟨h.os, h.tape, h.output, h.size, fun j hj ho => h.block j hj (fun e => by injection e with e; omega)⟩
theorem MidB.set {lo hi s : Nat} {a b : World} (h : MidB lo hi a b) (h1 : lo ≤ s) (h2 : s < hi) (o : Nat) (v : Value) : MidB lo hi a (b.setCell ⟨s, o, none⟩ v) :=
  h.trans ⟨rfl, rfl, rfl, by simp [World.setCell], fun j _ ho => Below.heap_setCell _ _ _ _ (fun e => by simp at e; omega)⟩
theorem MidB.below {lo hi : Nat} {a b : World} (h : MidB lo hi a b) (hl : lo ≤ a.heap.size) : Below lo a b := ⟨h.os, h.tape, h.output, h.size, fun k hk => h.block k (by omega) (.inl hk)⟩
theorem MidB.cell {lo hi : Nat} {a b : World} (h : MidB lo hi a b) {p o : Nat} {v : Value} (hc : a.cell? ⟨p, o, none⟩ = some v) (ho : p < lo ∨ hi ≤ p) : b.cell? ⟨p, o, none⟩ = some v := by
  have hp := World.block_lt_of_cell? _ _ hc
  have he := h.block p hp ho
  unfold World.cell? at hc ⊢
  simp only [he]
  exact hc
theorem MidB.there {lo hi : Nat} {a b : World} (h : MidB lo hi a b) {p n : Nat} (hT : There a p n) (ho : p < lo ∨ hi ≤ p) : There b p n := fun o hn => by
  obtain ⟨v, hv⟩ := (hT o hn).1
  refine ⟨⟨v, h.cell hv ho⟩, ?_⟩
  have he := h.block p (World.block_lt_of_cell? _ _ hv) ho
  have hz := (hT o hn).2
  unfold World.frozen? at hz ⊢
  simp only [he]
  exact hz
end Go.Proofs.YtciidkmonfmipaaGreat
/- Which blocks are written, and what stays. -/

namespace Go.Proofs.YtciidkmonfmipaaGreat
open Go.RowKit
set_option linter.unusedSimpArgs false
set_option linter.unusedVariables false
set_option maxRecDepth 100000

theorem There.grown {w w' : World} {p n s : Nat} (h : There w p n) (hg : w.grownBy w' (some s)) (hs : p ≠ s) : There w' p n := fun o hn => by
  obtain ⟨v, hv⟩ := (h o hn).1
  refine ⟨⟨v, gr_cell hg hv hs⟩, ?_⟩
  have he := hg.block p (World.block_lt_of_cell? _ _ hv) (fun e => hs (by injection e))
  have hz := (h o hn).2
  unfold World.frozen? at hz ⊢
  simp only [he]
  exact hz
end Go.Proofs.YtciidkmonfmipaaGreat
/- Lists of features in memory of their own: which blocks are written, and what stays. -/

namespace Go.Proofs.YtciidkmonfmipaaGreat
open Go.RowKit
set_option linter.unusedSimpArgs false
set_option linter.unusedVariables false
set_option maxRecDepth 100000

/-- A list of features whose blocks lie from lo to hi and may be written, no two alike. -/
def OwnQ (w : World) (lo hi b n : Nat) (N C q : Nat → Nat) : Prop :=
  (lo ≤ b ∧ b < hi ∧ hi ≤ w.heap.size) ∧ There w b (n * 7) ∧
  (∀ i, i < n → (lo ≤ q i ∧ q i < hi ∧ q i ≠ b) ∧ There w (q i) (N i * 2) ∧ w.cell? ⟨b, i * 7 + 4, none⟩ = some (.slice (some ⟨q i, 0, none⟩) (N i) (C i))) ∧
  (∀ i j, i < n → j < n → q i = q j → i = j)
theorem OwnQ.below {w w' : World} {lo hi b n : Nat} {N C q : Nat → Nat} (h : OwnQ w lo hi b n N C q) (hb : Below w.heap.size w w') : OwnQ w' lo hi b n N C q := by
  obtain ⟨⟨h1, h2, h3⟩, h4, h5, h6⟩ := h
  exact ⟨⟨h1, h2, Nat.le_trans h3 hb.size⟩, h4.below hb, fun i hi => ⟨(h5 i hi).1, (h5 i hi).2.1.below hb, bl_cell hb (h5 i hi).2.2⟩, h6⟩
theorem OwnQ.away {w w' : World} {lo hi lo' hi' b n : Nat} {N C q : Nat → Nat} (h : OwnQ w lo hi b n N C q) (hm : MidB lo' hi' w w') (ho : hi' ≤ lo ∨ hi ≤ lo') : OwnQ w' lo hi b n N C q := by
  obtain ⟨⟨h1, h2, h3⟩, h4, h5, h6⟩ := h
  exact ⟨⟨h1, h2, Nat.le_trans h3 hm.size⟩, hm.there h4 (by omega), fun i hi => ⟨(h5 i hi).1, hm.there (h5 i hi).2.1 (by have := (h5 i hi).1; omega), hm.cell (h5 i hi).2.2 (by omega)⟩, h6⟩

end Go.Proofs.YtciidkmonfmipaaGreat
/- The text of a mark: the same for the same number. -/

namespace Go.Proofs.YtciidkmonfmipaaGreat
open Go.RowKit
set_option linter.unusedSimpArgs false
set_option linter.unusedVariables false
set_option maxRecDepth 100000

def dgB (m : Nat) : UInt8 := UInt8.ofNat (48 + m % 10)
theorem dgB_nat (m : Nat) : (dgB m).toNat = 48 + m % 10 := by
  unfold dgB
  rw [UInt8.toNat_ofNat']
  omega
/-- The digits of k, ahead of s. -/
def mDg (k : Nat) (s : ByteArray) : ByteArray := if h : k = 0 then s else mDg (k / 10) (⟨#[dgB k]⟩ ++ s)
termination_by k
decreasing_by omega
def mTx (k : Nat) : ByteArray := ⟨#[109]⟩ ++ mDg k ⟨#[]⟩
set_option maxHeartbeats 2000000 in
theorem markText_any (k : Nat) (w : World) (h0 : 0 < k) (hk : k ≤ 6000000000000000000) :
    Calls Tryz.prog 75 #[.int .i64 (k : Int)] w fun e w' => e = .returned (.string (mTx k)) ∧ Below w.heap.size w w' := by
  have hneg : ¬ (k : Int) ≤ 0 := by omega
  go_enter Tryz.func75, Tryz.ntmps75
  go_wp2
  go_loopw [0, 3] (fun kk o wr => ∃ (m : Nat) (s : ByteArray) (j : Nat), kk = .int .i64 (m : Int) ∧ o = .string s ∧ m ≤ k ∧ mDg m s = mDg k ⟨#[]⟩ ∧ m < 10 ^ j ∧ s.size + j = 20 ∧ Below w.heap.size w wr) (fun kk _ _ => (intOf kk).toNat)
  case atStart => exact ⟨k, ⟨#[]⟩, 20, rfl, rfl, Nat.le_refl _, rfl, by omega, rfl, Below.refl _ _⟩
  case round =>
    obtain ⟨m, s, j, rfl, rfl, hm, hd, hj, hsj, hB⟩ := hrel
    by_cases hz : 0 < m
    · have hz' : (0 : Int) < (m : Int) := by omega
      have HD : Hid (mDg m s = mDg k ⟨#[]⟩) := hd
      have HJ : Hid (m < 10 ^ j) := hj
      clear hd hj
      have hcv : ∀ W B : World, W = B.alloc (.cells #[.int .u8 (48 + (m : Int) % 10)] 5) → (convert 166 9 (.slice (some ⟨B.heap.size, 0, none⟩) 1 1)).run Tryz.prog W = .ok (.string ⟨#[dgB m]⟩) W := fun W B e => by
        subst e
        have h := run_convert_bytes_back (P := Tryz.prog) (B.alloc (.cells #[.int .u8 (48 + (m : Int) % 10)] 5)) 166 9 5 ⟨B.heap.size, 0, none⟩ 1 [dgB m] Tryz.underlying166 Tryz.underlying5 Tryz.underlying9
        refine h (fun j hj => ?_)
        have hj0 : j = 0 := by simpa using hj
        subst hj0
        simp [Addr.add, go_sem, dgB_nat]
      have hcw := hcv _ wr rfl
      clear hcv
      go_wp2
      go_roundw
      case rel =>
        have hjp : 0 < j := by
          rcases Nat.eq_zero_or_pos j with h | h
          · have := HJ.out; rw [h] at this; simp at this; omega
          · exact h
        refine ⟨m / 10, _, j - 1, by simp, rfl, by omega, ?_, ?_, ?_, by (repeat (first | exact Below.refl _ _ | assumption | refine Below.drew ?_ | refine bl_alloc ?_ _ | refine bl_then ?_ (by assumption) | refine Below.setCell ?_ (by first | omega | (simp; done) | (simp; omega)) _ | refine bl_store ?_ ?_ _ _))⟩
        · rw [← HD.out]
          conv => rhs; rw [mDg]
          rw [dif_neg (by omega)]
        · have h1 := HJ.out
          have e : j = (j - 1) + 1 := by omega
          rw [e, Nat.pow_succ] at h1
          omega
        · have e1 : (⟨#[dgB m]⟩ : ByteArray).size = 1 := rfl
          rw [ByteArray.size_append, e1]
          omega
      case measure => simp [intOf]; omega
    · have hm0 : m = 0 := by omega
      subst hm0
      have HE : Hid (s = mDg k ⟨#[]⟩) := by
        show _ = _
        rw [← hd]
        rw [mDg]
        simp
      clear hd hj
      go_wp2
      go_ret
      refine ⟨?_, hB⟩
      have := HE.out
      rw [mTx, ← this]
      rfl
end Go.Proofs.YtciidkmonfmipaaGreat
/- Lists of features in memory of their own are marked, and the marks are found again. -/

namespace Go.Proofs.YtciidkmonfmipaaGreat
open Go.RowKit
set_option linter.unusedSimpArgs false
set_option linter.unusedVariables false
set_option maxRecDepth 100000

/-- How far the marks have come. -/
def kS (N : Nat → Nat) (k0 : Nat) : Nat → Nat
  | 0 => k0
  | j + 1 => kS N k0 j + 6 + 2 * N j
theorem kS_le (N : Nat → Nat) (k0 n : Nat) (h : ∀ i, i < n → N i ≤ 1048576) : ∀ j, j ≤ n → kS N k0 j ≤ k0 + j * 2097158
  | 0, _ => by simp [kS]
  | j + 1, hj => by
    have := kS_le N k0 n h j (by omega)
    have := h j (by omega)
    rw [kS]; omega
/-- Feature i of the list bears the marks from k on. -/
def MarkF (w : World) (b q i N C k : Nat) : Prop :=
  FeatAt w b (i * 7) ((k : Nat) : Int) ((k + 1 : Nat) : Int) ((k + 2 : Nat) : Int) ((k + 3 : Nat) : Int) (.slice (some ⟨q, 0, none⟩) N C) (mTx (k + 4 + 2 * N)) ((k + 5 + 2 * N : Nat) : Int) ∧ PtsAt w q 0 N (mkX (k + 4)) (mkY (k + 4))
theorem MarkF.below {w w' : World} {b q i N C k : Nat} (h : MarkF w b q i N C k) (hb : Below w.heap.size w w') (h1 : b < w.heap.size) (h2 : q < w.heap.size) : MarkF w' b q i N C k := ⟨h.1.below hb h1, h.2.below hb h2⟩

/-- One more feature is marked: what the six stores and the marks of its points leave. -/
theorem mark_step {wr w5 w6 : World} {lo hi b n j k : Nat} {N C q : Nat → Nat} (hO : OwnQ wr lo hi b n N C q) (hj : j < n)
    (hg : World.grownBy ((((wr.setCell ⟨b, j * 7, none⟩ (.int .i64 (k : Nat))).setCell ⟨b, j * 7 + 1, none⟩ (.int .i64 ((k + 1 : Nat) : Int))).setCell ⟨b, j * 7 + 2, none⟩ (.int .i64 ((k + 2 : Nat) : Int))).setCell ⟨b, j * 7 + 3, none⟩ (.int .i64 ((k + 3 : Nat) : Int))) w5 (some (q j)))
    (hT5 : There w5 (q j) (N j * 2)) (hP5 : PtsAt w5 (q j) 0 (N j) (mkX (k + 4)) (mkY (k + 4))) (h56 : Below w5.heap.size w5 w6)
    {N0 : Nat → Nat} {k0 : Nat} (hM : ∀ i, i < j → MarkF wr b (q i) i (N i) (C i) (kS N0 k0 i)) (hk : kS N0 k0 j = k) :
    OwnQ ((w6.setCell ⟨b, j * 7 + 5, none⟩ (.string (mTx (k + 4 + 2 * N j)))).setCell ⟨b, j * 7 + 6, none⟩ (.int .i64 ((k + 5 + 2 * N j : Nat) : Int))) lo hi b n N C q ∧
    MidB lo hi wr ((w6.setCell ⟨b, j * 7 + 5, none⟩ (.string (mTx (k + 4 + 2 * N j)))).setCell ⟨b, j * 7 + 6, none⟩ (.int .i64 ((k + 5 + 2 * N j : Nat) : Int))) ∧
    ∀ i, i < j + 1 → MarkF ((w6.setCell ⟨b, j * 7 + 5, none⟩ (.string (mTx (k + 4 + 2 * N j)))).setCell ⟨b, j * 7 + 6, none⟩ (.int .i64 ((k + 5 + 2 * N j : Nat) : Int))) b (q i) i (N i) (C i) (kS N0 k0 i) := by
  obtain ⟨⟨h1, h2, h3⟩, hTb, hq, hinj⟩ := hO
  have ne : ∀ i j : Nat, i ≠ j → (⟨b, i, none⟩ : Addr) ≠ ⟨b, j, none⟩ := fun i j hij h => hij (by injection h)
  have nb : ∀ (p o o' : Nat), p ≠ b → (⟨b, o, none⟩ : Addr) ≠ ⟨p, o', none⟩ := fun p o o' hp h => hp (by injection h with h; exact h.symm)
  obtain ⟨⟨hqj1, hqj2, hqj3⟩, hTj, hcj⟩ := hq j hj
  generalize hW4 : ((((wr.setCell ⟨b, j * 7, none⟩ (.int .i64 (k : Nat))).setCell ⟨b, j * 7 + 1, none⟩ (.int .i64 ((k + 1 : Nat) : Int))).setCell ⟨b, j * 7 + 2, none⟩ (.int .i64 ((k + 2 : Nat) : Int))).setCell ⟨b, j * 7 + 3, none⟩ (.int .i64 ((k + 3 : Nat) : Int))) = W4 at hg
  have hT4 : There W4 b (n * 7) := by subst hW4; exact ((((hTb.set _ _).set _ _).set _ _).set _ _)
  have hM4 : MidB lo hi wr W4 := by subst hW4; exact ((((MidB.refl lo hi wr).set h1 h2 _ _).set h1 h2 _ _).set h1 h2 _ _).set h1 h2 _ _
  have hT5b : There w5 b (n * 7) := hT4.grown hg (Ne.symm hqj3)
  have hT6 : There w6 b (n * 7) := hT5b.below h56
  generalize hV : ((w6.setCell ⟨b, j * 7 + 5, none⟩ (.string (mTx (k + 4 + 2 * N j)))).setCell ⟨b, j * 7 + 6, none⟩ (.int .i64 ((k + 5 + 2 * N j : Nat) : Int))) = V
  have hTV : There V b (n * 7) := by subst hV; exact (hT6.set _ _).set _ _
  have hMV : MidB lo hi wr V := by
    subst hV
    exact ((hM4.trans ((MidB.of_grown hg hqj1 hqj2).trans (MidB.of_below h56))).set h1 h2 _ _).set h1 h2 _ _
  -- a cell of the row that no store meets
  have hkeep : ∀ o v, wr.cell? ⟨b, o, none⟩ = some v → (o < j * 7 ∨ o = j * 7 + 4 ∨ j * 7 + 6 < o) → V.cell? ⟨b, o, none⟩ = some v := fun o v hv ho => by
    have hv4 : W4.cell? ⟨b, o, none⟩ = some v := by
      subst hW4
      rw [set1_other (ne _ _ (by omega)), set1_other (ne _ _ (by omega)), set1_other (ne _ _ (by omega)), set1_other (ne _ _ (by omega))]
      exact hv
    have hv6 := bl_cell h56 (gr_cell hg hv4 (Ne.symm hqj3))
    subst hV
    rw [set1_other (ne _ _ (by omega)), set1_other (ne _ _ (by omega))]
    exact hv6
  -- what lies in another block
  have hoth : ∀ p, p ≠ b → p ≠ q j → ∀ o v, wr.cell? ⟨p, o, none⟩ = some v → V.cell? ⟨p, o, none⟩ = some v := fun p hp hpq o v hv => by
    have hv4 : W4.cell? ⟨p, o, none⟩ = some v := by
      subst hW4
      rw [set1_other (nb _ _ _ hp), set1_other (nb _ _ _ hp), set1_other (nb _ _ _ hp), set1_other (nb _ _ _ hp)]
      exact hv
    have hv6 := bl_cell h56 (gr_cell hg hv4 hpq)
    subst hV
    rw [set1_other (nb _ _ _ hp), set1_other (nb _ _ _ hp)]
    exact hv6
  have hpt : ∀ p m X Y, p ≠ b → PtsAt w6 p 0 m X Y → PtsAt V p 0 m X Y := fun p m X Y hp h => by
    subst hV
    exact (h.store (Ne.symm hp)).store (Ne.symm hp)
  have hth : ∀ p m, p ≠ b → There w6 p m → There V p m := fun p m hp h => by
    subst hV
    exact (h.store (Ne.symm hp)).store (Ne.symm hp)
  have hql : q j < w5.heap.size := by have := hg.size; have := hM4.size; omega
  refine ⟨⟨⟨h1, h2, Nat.le_trans h3 hMV.size⟩, hTV, fun i hi => ⟨(hq i hi).1, ?_, hkeep _ _ (hq i hi).2.2 (by omega)⟩, hinj⟩, hMV, fun i hi => ?_⟩
  · by_cases e : i = j
    · subst e
      exact hth _ _ hqj3 (hT5.below h56)
    · have hne : q i ≠ q j := fun h => e (hinj i j hi hj h)
      have hne' := (hq i hi).1.2.2
      refine hth _ _ hne' ?_
      have h4 : There W4 (q i) (N i * 2) := by
        subst hW4
        exact ((((hq i hi).2.1.store (Ne.symm hne')).store (Ne.symm hne')).store (Ne.symm hne')).store (Ne.symm hne')
      exact (h4.grown hg hne).below h56
  · by_cases e : i = j
    · subst e
      rw [hk]
      have c4 : ∀ o v, W4.cell? ⟨b, o, none⟩ = some v → o ≠ i * 7 + 5 → o ≠ i * 7 + 6 → V.cell? ⟨b, o, none⟩ = some v := fun o v hv ho ho' => by
        have hv6 := bl_cell h56 (gr_cell hg hv (Ne.symm hqj3))
        subst hV
        rw [set1_other (ne _ _ (Ne.symm ho')), set1_other (ne _ _ (Ne.symm ho))]
        exact hv6
      obtain ⟨u0, g0⟩ := (hTb (i * 7) (by omega)).1
      obtain ⟨u1, g1⟩ := ((hTb.set (i * 7) (.int .i64 (k : Nat))) (i * 7 + 1) (by omega)).1
      obtain ⟨u2, g2⟩ := (((hTb.set (i * 7) (.int .i64 (k : Nat))).set (i * 7 + 1) (.int .i64 ((k + 1 : Nat) : Int))) (i * 7 + 2) (by omega)).1
      obtain ⟨u3, g3⟩ := ((((hTb.set (i * 7) (.int .i64 (k : Nat))).set (i * 7 + 1) (.int .i64 ((k + 1 : Nat) : Int))).set (i * 7 + 2) (.int .i64 ((k + 2 : Nat) : Int))) (i * 7 + 3) (by omega)).1
      obtain ⟨u5, g5⟩ := (hT6 (i * 7 + 5) (by omega)).1
      obtain ⟨u6, g6⟩ := ((hT6.set (i * 7 + 5) (.string (mTx (k + 4 + 2 * N i)))) (i * 7 + 6) (by omega)).1
      refine ⟨⟨c4 _ _ ?_ (by omega) (by omega), c4 _ _ ?_ (by omega) (by omega), c4 _ _ ?_ (by omega) (by omega), c4 _ _ ?_ (by omega) (by omega), hkeep _ _ hcj (by omega), ?_, ?_⟩, hpt _ _ _ _ hqj3 (hP5.below h56 hql)⟩
      · subst hW4; rw [set1_other (ne _ _ (by omega)), set1_other (ne _ _ (by omega)), set1_other (ne _ _ (by omega))]; exact set1_same g0
      · subst hW4; rw [set1_other (ne _ _ (by omega)), set1_other (ne _ _ (by omega))]; exact set1_same g1
      · subst hW4; rw [set1_other (ne _ _ (by omega))]; exact set1_same g2
      · subst hW4; exact set1_same g3
      · subst hV; rw [set1_other (ne _ _ (by omega))]; exact set1_same g5
      · subst hV; exact set1_same g6
    · have hi' : i < j := by omega
      obtain ⟨⟨m0, m1, m2, m3, m4, m5, m6⟩, mp⟩ := hM i hi'
      have hne : q i ≠ q j := fun h => e (hinj i j (by omega) hj h)
      have hne' := (hq i (by omega)).1.2.2
      refine ⟨⟨hkeep _ _ m0 (by omega), hkeep _ _ m1 (by omega), hkeep _ _ m2 (by omega), hkeep _ _ m3 (by omega), hkeep _ _ m4 (by omega), hkeep _ _ m5 (by omega), hkeep _ _ m6 (by omega)⟩, fun x hx => ?_⟩
      exact ⟨hoth _ hne' hne _ _ (mp x hx).1, hoth _ hne' hne _ _ (mp x hx).2⟩
end Go.Proofs.YtciidkmonfmipaaGreat
