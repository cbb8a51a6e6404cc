/- Several texts in one. -/
import Derived.Test.YtdohlnnbibnnbaaGreatVPlaceLabels46
import Derived.Test.YtdohlnnbibnnbaaGreatVPlaceLabels8
import Derived.Deep.Slices
import Derived.Test.YtdohlnnbibnnbaaGreatVPlaceLabels45
import Derived.Test.YtdohlnnbibnnbaaGreatVPlaceLabels37

/- How a list of features that came in is read. -/

namespace Go.Proofs.YtdohlnnbibnnbaaGreat
open Go.ChangeShapes Go.WideShapes Go.ChangeAt Go.RowKit Go.Deep
set_option linter.unusedVariables false
set_option maxRecDepth 100000

theorem open_feats {H : Type} {enc : TypeId × Value → H} {w : World} {base b0 : Nat} {held : Bool} {r : Reach} {v : Value} {d : DataW H} {p : List MemPlace}
    (hv : Value.okWide Tryz.prog w r b0 47 v) (h : DataW.Trod enc Tryz.prog w base (fun _ => true) held 47 v d p) :
    ∃ (a : Option Addr) (n cap : Nat) (F : Nat → Feat), v = .slice a n cap ∧ (IsFs w a n F ∧ CameFs n F) := by
  obtain ⟨a, len, cap, rfl⟩ := okWide_slice Tryz.underlying47 hv
  obtain ⟨fuel, hf⟩ := h
  rcases open_slice Tryz.underlying47 hf with ⟨hcs, _⟩ | ⟨x, l, c, m, n, D, Pl, hcs, _, hl, hc, hm, _, hx⟩
  · simp [Value.cells] at hcs
    obtain ⟨rfl, rfl, rfl⟩ := hcs
    exact ⟨none, 0, 0, fun _ => ⟨0, 0, 0, 0, none, 0, 0, fun _ => 0, fun _ => 0, ⟨#[]⟩, 0⟩, rfl, .inl rfl, Nat.zero_le _, fun i hi => absurd hi (by omega)⟩
  · simp [Value.cells] at hcs
    obtain ⟨rfl, rfl, rfl⟩ := hcs
    simp at hm
    subst hm
    have each : ∀ i, ∃ f : Feat, i < len → (∀ k, k < 7 → w.cell? (x.add (i * 7 + k)) = [Value.int .i64 f.id, .int .i64 f.la, .int .i64 f.ki, .int .i64 f.wi, .slice f.a f.n f.cap, .string f.lab, .int .i64 f.pr][k]?) ∧ IsPts w f.a f.n f.X f.Y ∧ f.n ≤ maxLen ∧ f.lab.size ≤ maxLen := by
      intro i
      by_cases hi : i < len
      · obtain ⟨cs', h1, h2⟩ := hx i (by omega)
        rw [cells_lf] at h1
        obtain ⟨_, hlen, hcell⟩ := World.cells?_some h1
        obtain ⟨id, la, ki, wi, a', n', cap', X, Y, lab, pr, rfl, hp, hn, hcp, hs⟩ := trod_feat h2
        refine ⟨⟨id, la, ki, wi, a', n', cap', X, Y, lab, pr⟩, fun _ => ⟨fun k hk => ?_, hp, Nat.le_trans hn hcp, hs⟩⟩
        have := hcell k hk
        rw [add_add] at this
        exact this
      · exact ⟨⟨0, 0, 0, 0, none, 0, 0, fun _ => 0, fun _ => 0, ⟨#[]⟩, 0⟩, fun h => absurd h hi⟩
    obtain ⟨F, hF⟩ := Classical.skolem.1 each
    refine ⟨some x, len, _, F, rfl, ?_, Nat.le_trans hl hc, fun i hi => (hF i hi).2.2⟩
    by_cases h0 : len = 0
    · exact .inl h0
    · right
      obtain ⟨b, off, spot⟩ := x
      have e0 := (hF 0 (by omega)).1 0 (by omega)
      simp at e0
      have hspot : spot = none := by simpa [Addr.add] using World.cell?_spot e0
      subst hspot
      refine ⟨b, off, rfl, ?_, fun i hi => ?_⟩
      · have := World.block_lt_of_cell? _ _ e0
        simpa [Addr.add] using this
      · obtain ⟨hc7, hp, _, _⟩ := hF i hi
        refine ⟨?_, hp⟩
        have k0 := hc7 0 (by omega)
        have k1 := hc7 1 (by omega)
        have k2 := hc7 2 (by omega)
        have k3 := hc7 3 (by omega)
        have k4 := hc7 4 (by omega)
        have k5 := hc7 5 (by omega)
        have k6 := hc7 6 (by omega)
        rw [add_plain] at k0 k1 k2 k3 k4 k5 k6
        simp only [← Nat.add_assoc, Nat.add_zero] at k0 k1 k2 k3 k4 k5 k6
        exact ⟨k0, k1, k2, k3, k4, k5, k6⟩
end Go.Proofs.YtdohlnnbibnnbaaGreat
/- How a ref and a camera that came in beside features are read. -/

namespace Go.Proofs.YtdohlnnbibnnbaaGreat
open Go.ChangeShapes Go.WideShapes Go.ChangeAt Go.RowKit Go.Deep
set_option linter.unusedVariables false
set_option maxRecDepth 100000
theorem cells_lc : Tryz.prog.cellsOf 48 = 5 := by kernel_rfl
/-- Five cells that read as a camera. -/
theorem trod_cam {H : Type} {enc : TypeId × Value → H} {w : World} {base : Nat} {spare : Nat → Bool} {held : Bool} {n : Nat} {cs : List Value} {x : DataW H × List MemPlace}
    (h : DataW.trod enc Tryz.prog w base spare held n 48 cs = some x) : ∃ a b c d e : Int, cs = [.int .i64 a, .int .i64 b, .int .i64 c, .int .i64 d, .int .i64 e] := by
  obtain ⟨xs, m, rfl, hx, hl, hxl, hf⟩ := DataW.trod_struct Tryz.underlying48 h
  rw [cells_lc] at hl
  have hxl3 : xs.length = 5 := hxl
  match cs, hl with
  | [v0, v1, v2, v3, v4], _ =>
    match xs, hxl3 with
    | [x0, x1, x2, x3, x4], _ =>
      have h0 := hf 0 _ rfl
      have h1 := hf 1 _ rfl
      have h2 := hf 2 _ rfl
      have h3 := hf 3 _ rfl
      have h4 := hf 4 _ rfl
      simp [cells_i64] at h0 h1 h2 h3 h4
      obtain ⟨a, e0, _, _⟩ := DataW.trod_int Tryz.underlying2 h0
      obtain ⟨b, e1, _, _⟩ := DataW.trod_int Tryz.underlying2 h1
      obtain ⟨c, e2, _, _⟩ := DataW.trod_int Tryz.underlying2 h2
      obtain ⟨d, e3, _, _⟩ := DataW.trod_int Tryz.underlying2 h3
      obtain ⟨e, e4, _, _⟩ := DataW.trod_int Tryz.underlying2 h4
      simp at e0 e1 e2 e3 e4
      subst e0 e1 e2 e3 e4
      exact ⟨a, b, c, d, e, rfl⟩
theorem open_cam {H : Type} {enc : TypeId × Value → H} {w : World} {base b0 : Nat} {spare : Nat → Bool} {held : Bool} {r : Reach} {v : Value} {dd : DataW H} {p : List MemPlace}
    (hv : Value.okWide Tryz.prog w r b0 48 v) (h : DataW.Trod enc Tryz.prog w base spare held 48 v dd p) :
    ∃ a b c d e : Int, v = .agg #[.int .i64 a, .int .i64 b, .int .i64 c, .int .i64 d, .int .i64 e] := by
  obtain ⟨cs, rfl, hsz⟩ := okWide_struct Tryz.underlying48 hv
  obtain ⟨n, h⟩ := h
  obtain ⟨a, b, c, d, e, he⟩ := trod_cam h
  refine ⟨a, b, c, d, e, ?_⟩
  have : cs = #[.int .i64 a, .int .i64 b, .int .i64 c, .int .i64 d, .int .i64 e] := by
    apply Array.toList_inj.1
    simpa [Value.cells] using he
  rw [this]
end Go.Proofs.YtdohlnnbibnnbaaGreat
/- PlaceLabels: the program and the model. -/

namespace Go.Proofs.YtdohlnnbibnnbaaGreat
open Go.RowKit
set_option linter.unusedSimpArgs false
set_option linter.unusedVariables false
set_option maxRecDepth 100000

/-- The box of the label of a feature at a zoom. -/
noncomputable def lbG (z : Int) (G : Nat → Feat) (i : Nat) : Plc := lbF (G i).id (G i).lab (ancI z (px (simL z (G i)) 0)) (ancI z (py (simL z (G i)) 0))
/-- The code, and the boxes that are placed. -/
noncomputable def plqC (z x y wd ht : Int) (n : Nat) (G : Nat → Feat) : Int := if camC z x y wd ht = 0 then featsC n G else camC z x y wd ht
noncomputable def plqL (z x y wd ht : Int) (n : Nat) (G : Nat → Feat) : List Plc := if plqC z x y wd ht n G = 0 then plsP x y wd ht (lbG z G) (srtL n G) else []
theorem lbB_sim {z : Int} {G T : Nat → Feat} {i j : Nat} (h : simOf z (G j) (T i)) : lbB z T i = lbG z G j := by
  obtain ⟨h1, h2, h3, h4, h5, h6, h7, h8, h9⟩ := h
  unfold lbB lbG
  rw [h1, h8, h6, h7]
theorem stepP_congr {x y wd ht : Int} {B B' : Nat → Plc} {L : List Plc} {i j : Nat} (h : B i = B' j) : stepP x y wd ht B L i = stepP x y wd ht B' L j := by unfold stepP; rw [h]
theorem plsP_map (x y wd ht : Int) (B B' : Nat → Plc) (σ : Nat → Nat) (l : List Nat) (h : ∀ i ∈ l, B i = B' (σ i)) : plsP x y wd ht B l = plsP x y wd ht B' (l.map σ) := by
  unfold plsP
  generalize ([] : List Plc) = L
  induction l generalizing L with
  | nil => rfl
  | cons i r ih =>
    rw [List.map_cons, List.foldl_cons, List.foldl_cons, stepP_congr (h i (List.mem_cons_self ..))]
    exact ih (fun j hj => h j (List.mem_cons_of_mem _ hj)) _
/-- Whatever order the features had, their labels are placed alike. -/
theorem plsP_sim {x y wd ht z : Int} {n : Nat} {G T : Nat → Feat} (σ : Nat → Nat) (hσ : ((List.range n).map σ).Perm (List.range n)) (hap : apartK (fun i => (G i).id) n) (hlt : ∀ i, i < n → σ i < n) (hinj : ∀ i j, i < n → j < n → σ i = σ j → i = j) (hs : ∀ i, i < n → simOf z (G (σ i)) (T i)) :
    plsP x y wd ht (lbB z T) (srtL n T) = plsP x y wd ht (lbG z G) (srtL n G) := by
  have hapT : apartK (fun i => (T i).id) n := fun i j hi hj e => by
    have e1 := (hs i hi).1
    have e2 := (hs j hj).1
    have e' : (T i).id = (T j).id := e
    rw [e1, e2] at e'
    exact hinj i j hi hj (hap _ _ (hlt i hi) (hlt j hj) e')
  have hmem : ∀ i ∈ srtL n T, i < n := fun i hi => (srtK_mem _ _ n i).1 hi
  rw [plsP_map x y wd ht (lbB z T) (lbG z G) σ (srtL n T) (fun i hi => lbB_sim (hs i (hmem i hi)))]
  congr 1
  refine srtK_unique (fun i => (G i).pr) (fun i => (G i).id) n hap _ (((srtK_perm (fun i => (T i).pr) (fun i => (T i).id) n).map σ).trans hσ) ?_
  rw [List.pairwise_map]
  have hso := srtK_sorted (fun i => (T i).pr) (fun i => (T i).id) n hapT
  refine List.Pairwise.imp_of_mem (fun {a b} ha hb hab => ?_) hso
  have ha' := hmem a ha
  have hb' := hmem b hb
  rw [ltK_iff] at hab
  rw [ltK_no]
  have p1 := (hs a ha').2.2.2.2.2.2.2.2
  have p2 := (hs b hb').2.2.2.2.2.2.2.2
  have q1 := (hs a ha').1
  have q2 := (hs b hb').1
  rw [p1, p2, q1, q2] at hab
  omega
theorem plq_same {z x y wd ht : Int} {n : Nat} {G F : Nat → Feat} (h : ∀ i, i < n → (G i).same (F i)) : plqC z x y wd ht n G = plqC z x y wd ht n F ∧ plqL z x y wd ht n G = plqL z x y wd ht n F := by
  have e1 : plqC z x y wd ht n G = plqC z x y wd ht n F := by unfold plqC; rw [featsC_same h]
  refine ⟨e1, ?_⟩
  unfold plqL
  rw [e1]
  have e2 : srtL n G = srtL n F := srtK_congr n (fun j hj => ⟨(h j hj).2.2.2.2.2.2.2.2, (h j hj).1⟩)
  rw [e2]
  have e3 := plsP_map x y wd ht (lbG z G) (lbG z F) id (srtL n F) (fun i hi => by
    have hi' := (srtK_mem _ _ n i).1 hi
    show lbG z G i = lbG z F i
    unfold lbG
    rw [simL_same (h i hi'), (h i hi').1, (h i hi').2.2.2.2.2.2.2.1])
  rw [List.map_id] at e3
  rw [e3]
theorem plqL_len (z x y wd ht : Int) (n : Nat) (G : Nat → Feat) : (plqL z x y wd ht n G).length ≤ 1048576 := by
  unfold plqL
  split
  · rename_i h
    have hn : n ≤ 12 := by
      unfold plqC at h
      split at h
      · exact (featsC_ok h).1
      · rename_i h'; exact absurd h h'
    have := plsP_len x y wd ht (lbG z G) (srtL n G) n
    rw [List.take_of_length_le (by rw [show (srtL n G).length = n from srtK_len _ _ _]; exact Nat.le_refl _)] at this
    omega
  · simp
end Go.Proofs.YtdohlnnbibnnbaaGreat
