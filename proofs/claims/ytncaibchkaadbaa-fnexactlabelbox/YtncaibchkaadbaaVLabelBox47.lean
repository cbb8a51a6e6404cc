/- The law of LabelBox returns true, where the program and the model answer the same code and the same list in memory of their own. -/
import Derived.Test.YtncaibchkaadbaaVLabelBox46
import Derived.Test.YtncaibchkaadbaaVLabelBox44
namespace Go.Proofs.Ytncaibchkaadbaa
open Go.RowKit
set_option linter.unusedSimpArgs false
set_option linter.unusedVariables false
set_option maxRecDepth 100000

/-- Block p holds a code and a list. -/
def R2P (w : World) (p : Nat) (c : Int) (v : Value) : Prop := w.cell? ⟨p, 0, none⟩ = some (.int .i64 c) ∧ w.cell? ⟨p, 1, none⟩ = some v
theorem R2P.row {w w' : World} {p : Nat} {row : Option Nat} {c : Int} {v : Value} (h : R2P w p c v) (hg : w.grownBy w' row) (hs : ∀ s, row = some s → p ≠ s) : R2P w' p c v := ⟨hg.cell h.1 (fun e => hs _ e.symm rfl), hg.cell h.2 (fun e => hs _ e.symm rfl)⟩
theorem R2P.below {w w' : World} {p : Nat} {c : Int} {v : Value} (h : R2P w p c v) (hb : Below w.heap.size w w') : R2P w' p c v := ⟨(hb.cell (World.block_lt_of_cell? _ _ h.1)).trans h.1, (hb.cell (World.block_lt_of_cell? _ _ h.2)).trans h.2⟩
theorem below_rowP {B : Nat} {row : Option Nat} {a b : World} (h : a.grownBy b row) (hs : ∀ s, row = some s → B ≤ s) (hl : B ≤ a.heap.size) : Below B a b :=
  ⟨h.os, h.tape, h.output, h.size, fun k hk => h.block k (by omega) (fun e => by have := hs k e.symm; omega)⟩
theorem OwnP.row {w w' : World} {base : Nat} {v : Value} {n : Nat} {E : Nat → Plc} {row : Option Nat} (h : OwnP w base v n E) (hg : w.grownBy w' row) (hs : ∀ s, row = some s → s < base) : OwnP w' base v n E := by
  obtain ⟨a, cap, hv, hc, h0 | ⟨b, ha, hbb, hl, hp, ht⟩⟩ := h
  · exact ⟨a, cap, hv, hc, .inl h0⟩
  · have hne : ∀ s, row = some s → b ≠ s := fun s e => by have := hs s e; omega
    refine ⟨a, cap, hv, hc, .inr ⟨b, ha, hbb, Nat.lt_of_lt_of_le hl hg.size, fun i hi => ?_, fun o ho => ?_⟩⟩
    · obtain ⟨h0, h1, h2, h3, h4⟩ := hp i hi
      exact ⟨ro_cell hg h0 hne, ro_cell hg h1 hne, ro_cell hg h2 hne, ro_cell hg h3 hne, ro_cell hg h4 hne⟩
    · obtain ⟨u, hu⟩ := (ht o ho).1
      refine ⟨⟨u, ro_cell hg hu hne⟩, ?_⟩
      have hb := hg.block b hl (fun e => hne b e.symm rfl)
      have h2 := (ht o ho).2
      unfold World.frozen? at h2 ⊢
      simp only [hb]
      exact h2
theorem R2P.lt {w : World} {p : Nat} {c : Int} {v : Value} (h : R2P w p c v) : p < w.heap.size := World.block_lt_of_cell? _ _ h.1
theorem R2P.new (w : World) (c : Int) (v : Value) (t : TypeId) : R2P (w.alloc (.cells #[.int .i64 c, v] t)) w.heap.size c v := by
  refine ⟨?_, ?_⟩ <;> simp [go_sem]

set_option maxHeartbeats 8000000 in
theorem FnExactLabelBox_law (c : Int) (id la ki wi : Int) (lab : ByteArray) (pr : Int) (a : Option Addr) (n cap m : Nat) (X Y : Nat → Int) (Z : Nat → Plc) (z : Int) (w : World) (hpt : IsPts w a n X Y) (hsz : n + lab.size ≤ 1048576) (hm : m ≤ 1048576)
    (hsp : ∀ b w, PtsAt w b 0 n X Y → b < w.heap.size → Calls Try.prog 11 #[.agg #[.int .i64 id, .int .i64 la, .int .i64 ki, .int .i64 wi, .slice (some ⟨b, 0, none⟩) n n, .string lab, .int .i64 pr], .int .i64 z] w fun e w' => ∃ v, e = .returned (.agg #[.int .i64 c, v]) ∧ OwnP w' w.heap.size v m Z ∧ Below w.heap.size w w')
    (him : ∀ b w, PtsAt w b 0 n X Y → b < w.heap.size → Calls Try.prog 12 #[.agg #[.int .i64 id, .int .i64 la, .int .i64 ki, .int .i64 wi, .slice (some ⟨b, 0, none⟩) n n, .string lab, .int .i64 pr], .int .i64 z] w fun e w' => ∃ v, e = .returned (.agg #[.int .i64 c, v]) ∧ OwnP w' w.heap.size v m Z ∧ Below w.heap.size w w') :
    Calls Try.prog 4 #[.agg #[.int .i64 id, .int .i64 la, .int .i64 ki, .int .i64 wi, .slice a n cap, .string lab, .int .i64 pr], .int .i64 z] w fun e w' => e = .returned (.bool true) ∧ Below w.heap.size w w' := by
  have HI0 : Hid (IsPts w a n X Y) := hpt
  have Hsp := (show Hid _ from hsp)
  have Him := (show Hid _ from him)
  have hn : n ≤ 1048576 := by omega
  have hz : szF 1048576 n lab.size = 1048576 - (n : Int) - (lab.size : Int) := by unfold szF; rw [if_neg (by omega)]; rfl
  have hneg : ¬ (1048576 : Int) - (n : Int) - (lab.size : Int) < 0 := by omega
  have HMX : Hid (n ≤ maxLen ∧ lab.size ≤ maxLen) := by show _ ∧ _; unfold maxLen; omega
  clear hpt hsp him hsz
  go_enter Try.func4, Try.ntmps4
  go_wp2_with fail
  generalize hW : (w.alloc _ : World) = W
  have HB0 : Hid (Below w.heap.size w W) := by show Below _ _ _; subst hW; (repeat (first | exact Below.refl _ _ | assumption | refine Below.drew ?_ | refine bl_alloc ?_ _ | refine bl_then ?_ (by assumption) | refine Below.setCell ?_ (by first | omega | (simp; done) | (simp; omega)) _ | refine bl_store ?_ ?_ _ _))
  have HFW : Hid (FeatAt W w.heap.size 0 id la ki wi (.slice a n cap) lab pr) := by
    show FeatAt _ _ _ _ _ _ _ _ _ _
    subst hW
    exact FeatAt.new _ _ _ _ _ _ _ _ _
  have hlW : w.heap.size < W.heap.size := by subst hW; simp
  have HI : Hid (IsPts W a n X Y) := HI0.out.below HB0.out
  clear hW HI0
  refine (szFeature_any _ _ _ _ _ _ _ _ _ 1048576 _ (by omega) HMX.out.1 HMX.out.2).mono ?_
  rintro e w0 ⟨rfl, hb0⟩
  obtain ⟨q0, q1, q2, q3, q4, q5, q6⟩ := HFW.out.below hb0 hlW
  simp only [Nat.zero_add] at q0 q1 q2 q3 q4 q5 q6
  go_wp2_with fail
  refine (toFeature_any id la ki wi a n cap X Y lab pr _ (HI.out.below hb0) hn).mono ?_
  rintro e w1 ⟨b1, rfl, hle1, hlt1, hp1, hb1⟩
  have HP1 : Hid (PtsAt w1 b1 0 n X Y) := hp1
  have hB1 : Below W.heap.size W w1 := bl_then hb0 hb1
  clear hp1 q0 q1 q2 q3 q4 q5 q6 hb1 hb0 hz hneg
  go_wp2_with fail
  refine (Hsp.out _ _ HP1.out hlt1).mono ?_
  rintro e w2 ⟨v0, rfl, hO2, hb2⟩
  obtain ⟨a0, cap0, rfl, hc0, hI0⟩ := hO2.pts
  have hB2 : Below W.heap.size W w2 := bl_then hB1 hb2
  have HI2 : Hid (IsLb w2 a0 m Z) := hI0
  have hle12 := hb2.size
  have hle2 := hB2.size
  have hlw2 : w.heap.size < w2.heap.size := by omega
  obtain ⟨q0, q1, q2, q3, q4, q5, q6⟩ := HFW.out.below hB2 hlW
  simp only [Nat.zero_add] at q0 q1 q2 q3 q4 q5 q6
  clear hb2 HP1 hI0 hO2 hB1
  go_wp2_with fail
  generalize hW3 : (w2.alloc _ : World) = w3
  have hb23 : Below w2.heap.size w2 w3 := by subst hW3; (repeat (first | exact Below.refl _ _ | assumption | refine Below.drew ?_ | refine bl_alloc ?_ _ | refine bl_then ?_ (by assumption) | refine Below.setCell ?_ (by first | omega | (simp; done) | (simp; omega)) _ | refine bl_store ?_ ?_ _ _))
  have HS3 : Hid (R2P w3 w2.heap.size c (.slice a0 m cap0)) := by
    show R2P _ _ _ _
    subst hW3
    exact R2P.new _ _ _ _
  have hs23 : w2.heap.size < w3.heap.size := by subst hW3; simp
  clear hW3 q0 q1 q2 q3 q4 q5 q6
  have hB3 : Below W.heap.size W w3 := bl_then hB2 hb23
  have HI3 : Hid (IsLb w3 a0 m Z) := HI2.out.below hb23
  clear hb23 hB2 HI2
  refine (toFeature_own id la ki wi a n cap X Y lab pr _ (HI.out.below hB3) hn).mono ?_
  rintro e w4 ⟨b4, rfl, hle4, hlt4, hp4, ht4, hb4⟩
  have HP4 : Hid (PtsAt w4 b4 0 n X Y) := hp4
  have HT4 : Hid (There w4 b4 (n * 2)) := ht4
  clear hp4 ht4
  go_wp2_with fail
  generalize hV : (w4.alloc _ : World) = V
  have hb4V : Below w4.heap.size w4 V := by subst hV; (repeat (first | exact Below.refl _ _ | assumption | refine Below.drew ?_ | refine bl_alloc ?_ _ | refine bl_then ?_ (by assumption) | refine Below.setCell ?_ (by first | omega | (simp; done) | (simp; omega)) _ | refine bl_store ?_ ?_ _ _))
  have HXV : Hid (FeatAt V w4.heap.size 0 id la ki wi (.slice (some ⟨b4, 0, none⟩) n n) lab pr) := by
    show FeatAt _ _ _ _ _ _ _ _ _ _
    subst hV
    exact FeatAt.new _ _ _ _ _ _ _ _ _
  have hs4V : w4.heap.size < V.heap.size := by subst hV; simp
  have hB3V : Below w3.heap.size w3 V := bl_then hb4 hb4V
  have HPV : Hid (PtsAt V b4 0 n X Y) := HP4.out.below hb4V hlt4
  have HTV : Hid (There V b4 (n * 2)) := HT4.out.below hb4V
  have hltV : b4 < V.heap.size := by omega
  clear hV HP4 HT4 hb4 hb4V
  refine (Him.out _ _ HPV.out hltV).mono ?_
  rintro e w5 ⟨v1, rfl, hO5, hb5⟩
  obtain ⟨a1, cap1, rfl, hc1, hI1⟩ := hO5.pts
  have hB5 : Below w3.heap.size w3 w5 := bl_then hB3V hb5
  have HP5 : Hid (PtsAt w5 b4 0 n X Y) := HPV.out.below hb5 hltV
  have HT5 : Hid (There w5 b4 (n * 2)) := HTV.out.below hb5
  have HX5 : Hid (FeatAt w5 w4.heap.size 0 id la ki wi (.slice (some ⟨b4, 0, none⟩) n n) lab pr) := HXV.out.below hb5 hs4V
  have hle5 := hb5.size
  have HO5 : Hid (OwnP w5 V.heap.size (.slice a1 m cap1) m Z) := hO5
  have HI5 : Hid (IsLb w5 a1 m Z) := hI1
  have HU5 : Hid (UnderP w5.heap.size w5 a1 m Z) := hI1
  clear hB3V hb5 HPV HTV HXV hO5 hI1
  obtain ⟨k0, k1⟩ := HS3.out.below hB5
  have hle35 := hB5.size
  have hlw : w2.heap.size < w5.heap.size := by omega
  go_wp2_with fail
  generalize hW6 : (w5.alloc _ : World) = w6
  have hb56 : Below w5.heap.size w5 w6 := by subst hW6; (repeat (first | exact Below.refl _ _ | assumption | refine Below.drew ?_ | refine bl_alloc ?_ _ | refine bl_then ?_ (by assumption) | refine Below.setCell ?_ (by first | omega | (simp; done) | (simp; omega)) _ | refine bl_store ?_ ?_ _ _))
  have HG6 : Hid (R2P w6 w5.heap.size c (.slice a1 m cap1)) := by
    show R2P _ _ _ _
    subst hW6
    exact R2P.new _ _ _ _
  have hs56 : w5.heap.size < w6.heap.size := by subst hW6; simp
  clear hW6 k0 k1
  have hB6 : Below w3.heap.size w3 w6 := bl_then hB5 hb56
  have HP6 : Hid (PtsAt w6 b4 0 n X Y) := HP5.out.below hb56 (by omega)
  have HT6 : Hid (There w6 b4 (n * 2)) := HT5.out.below hb56
  have HX6 : Hid (FeatAt w6 w4.heap.size 0 id la ki wi (.slice (some ⟨b4, 0, none⟩) n n) lab pr) := HX5.out.below hb56 (by omega)
  have HO6 : Hid (OwnP w6 V.heap.size (.slice a1 m cap1) m Z) := HO5.out.below hb56
  have HI6 : Hid (IsLb w6 a1 m Z) := HI5.out.below hb56
  clear hb56 HP5 HT5 HO5 HI5 HX5
  refine (eqPlacedResult_any c _ _ _ _ _ Z _ HI6.out (HI3.out.below hB6) hm).mono ?_
  rintro e w7 ⟨rfl, hb7⟩
  have HP7 : Hid (PtsAt w7 b4 0 n X Y) := HP6.out.below hb7 (by omega)
  have HT7 : Hid (There w7 b4 (n * 2)) := HT6.out.below hb7
  have HX7 : Hid (FeatAt w7 w4.heap.size 0 id la ki wi (.slice (some ⟨b4, 0, none⟩) n n) lab pr) := HX6.out.below hb7 (by omega)
  have HO7 : Hid (OwnP w7 V.heap.size (.slice a1 m cap1) m Z) := HO6.out.below hb7
  have HG7 : Hid (R2P w7 w5.heap.size c (.slice a1 m cap1)) := HG6.out.below hb7
  have hB7 : Below w3.heap.size w3 w7 := bl_then hB6 hb7
  have HBW7 : Hid (Below W.heap.size W w7) := bl_then hB3 hB7
  have hle67 := hb7.size
  clear HP6 HT6 HO6 HI6 HX6 HG6 hb7 hB6 hB5
  have c0 : ∀ W', Below w7.heap.size w7 W' → W'.cell? ⟨w.heap.size, 0, none⟩ = some (.int .i64 id) := fun W' h => by have := (HFW.out.below (bl_then HBW7.out h) hlW).1; simpa using this
  have c1 : ∀ W', Below w7.heap.size w7 W' → W'.cell? ⟨w.heap.size, 1, none⟩ = some (.int .i64 la) := fun W' h => by have := (HFW.out.below (bl_then HBW7.out h) hlW).2.1; simpa using this
  have c2 : ∀ W', Below w7.heap.size w7 W' → W'.cell? ⟨w.heap.size, 2, none⟩ = some (.int .i64 ki) := fun W' h => by have := (HFW.out.below (bl_then HBW7.out h) hlW).2.2.1; simpa using this
  have c3 : ∀ W', Below w7.heap.size w7 W' → W'.cell? ⟨w.heap.size, 3, none⟩ = some (.int .i64 wi) := fun W' h => by have := (HFW.out.below (bl_then HBW7.out h) hlW).2.2.2.1; simpa using this
  have c4 : ∀ W', Below w7.heap.size w7 W' → W'.cell? ⟨w.heap.size, 4, none⟩ = some (.slice a n cap) := fun W' h => by have := (HFW.out.below (bl_then HBW7.out h) hlW).2.2.2.2.1; simpa using this
  have c5 : ∀ W', Below w7.heap.size w7 W' → W'.cell? ⟨w.heap.size, 5, none⟩ = some (.string lab) := fun W' h => by have := (HFW.out.below (bl_then HBW7.out h) hlW).2.2.2.2.2.1; simpa using this
  have c6 : ∀ W', Below w7.heap.size w7 W' → W'.cell? ⟨w.heap.size, 6, none⟩ = some (.int .i64 pr) := fun W' h => by have := (HFW.out.below (bl_then HBW7.out h) hlW).2.2.2.2.2.2; simpa using this
  have hl47 : w4.heap.size < w7.heap.size := by omega
  have x0 : ∀ W', Below w7.heap.size w7 W' → W'.cell? ⟨w4.heap.size, 0, none⟩ = some (.int .i64 id) := fun W' h => by have := (HX7.out.below h hl47).1; simpa using this
  have x1 : ∀ W', Below w7.heap.size w7 W' → W'.cell? ⟨w4.heap.size, 1, none⟩ = some (.int .i64 la) := fun W' h => by have := (HX7.out.below h hl47).2.1; simpa using this
  have x2 : ∀ W', Below w7.heap.size w7 W' → W'.cell? ⟨w4.heap.size, 2, none⟩ = some (.int .i64 ki) := fun W' h => by have := (HX7.out.below h hl47).2.2.1; simpa using this
  have x3 : ∀ W', Below w7.heap.size w7 W' → W'.cell? ⟨w4.heap.size, 3, none⟩ = some (.int .i64 wi) := fun W' h => by have := (HX7.out.below h hl47).2.2.2.1; simpa using this
  have x4 : ∀ W', Below w7.heap.size w7 W' → W'.cell? ⟨w4.heap.size, 4, none⟩ = some (.slice (some ⟨b4, 0, none⟩) n n) := fun W' h => by have := (HX7.out.below h hl47).2.2.2.2.1; simpa using this
  have x5 : ∀ W', Below w7.heap.size w7 W' → W'.cell? ⟨w4.heap.size, 5, none⟩ = some (.string lab) := fun W' h => by have := (HX7.out.below h hl47).2.2.2.2.2.1; simpa using this
  have x6 : ∀ W', Below w7.heap.size w7 W' → W'.cell? ⟨w4.heap.size, 6, none⟩ = some (.int .i64 pr) := fun W' h => by have := (HX7.out.below h hl47).2.2.2.2.2.2; simpa using this
  have hl4 : b4 < w7.heap.size := by omega
  go_wp2_with fail
  go_region_held3 (fun W' => Below w7.heap.size w7 W') ((repeat (first | exact Below.refl _ _ | assumption | refine Below.drew ?_ | refine bl_alloc ?_ _ | refine bl_then ?_ (by assumption) | refine Below.setCell ?_ (by first | omega | (simp; done) | (simp; omega)) _ | refine bl_store ?_ ?_ _ _)))
    (first
      | (go_at_call 7; refine (toFeature_any id la ki wi a n cap X Y lab pr _ (HI.out.below (bl_then HBW7.out (by assumption))) hn).mono ?_; rintro e w8 ⟨b8, rfl, hle8, hlt8, hp8, hb8⟩)
      | (go_at_call 10; refine (eqFeature_any id la ki wi n X Y lab pr b4 b8 _ (HP7.out.below (by assumption) hl4) hp8 (Nat.lt_of_lt_of_le hl4 (Below.size (by assumption))) hlt8 hn).mono ?_; rintro e w9 ⟨rfl, hb9⟩))
  have hb79 : Below w7.heap.size w7 w9 := by assumption
  have hle79 := hb79.size
  have HT9 : Hid (There w9 b4 (n * 2)) := HT7.out.below hb79
  have HO9 : Hid (OwnP w9 V.heap.size (.slice a1 m cap1) m Z) := HO7.out.below hb79
  have HG9 : Hid (R2P w9 w5.heap.size c (.slice a1 m cap1)) := HG7.out.below hb79
  have HX9 : Hid (FeatAt w9 w4.heap.size 0 id la ki wi (.slice (some ⟨b4, 0, none⟩) n n) lab pr) := HX7.out.below hb79 hl47
  have hB39 : Below w3.heap.size w3 w9 := bl_then hB7 hb79
  have hBW9 : Below W.heap.size W w9 := bl_then HBW7.out hb79
  have hlt9 : b4 < w9.heap.size := by omega
  clear c0 c1 c2 c3 c4 c5 c6 x0 x1 x2 x3 x4 x5 x6 HP7 HT7 HO7 HG7 HX7 HBW7 hB7
  obtain ⟨q0, q1, q2, q3, q4, q5, q6⟩ := HX9.out
  simp only [Nat.zero_add] at q0 q1 q2 q3 q4 q5 q6
  go_wp2_with fail
  -- the argument is marked
  refine (markFeature_any id la ki wi b4 n _ lab pr _ HT9.out hlt9 hn).mono ?_
  rintro e wa ⟨rfl, hGa, _, _⟩
  have hle39 := hB39.size
  have hleW3 := hB3.size
  have hwa : w9.heap.size ≤ wa.heap.size := hGa.size
  have HGa : Hid (R2P wa w5.heap.size c (.slice a1 m cap1)) := HG9.out.row hGa (fun s hs => by injection hs with hs; omega)
  have HSa : Hid (R2P wa w2.heap.size c (.slice a0 m cap0)) := (HS3.out.below hB39).row hGa (fun s hs => by injection hs with hs; omega)
  have HOa : Hid (OwnP wa V.heap.size (.slice a1 m cap1) m Z) := HO9.out.row hGa (fun s hs => by injection hs with hs; omega)
  have HIa : Hid (UnderP w3.heap.size wa a0 m Z) := by
    have h3 : UnderP w3.heap.size w3 a0 m Z := HI3.out
    exact (h3.below hB39 (Nat.le_refl _)).row hGa (fun s hs => by injection hs with hs; omega)
  have HBa : Hid (Below W.heap.size W wa) := hBW9.trans (below_grown hGa (by omega) (by omega))
  have hqn : ¬ ((1 + 2 * n : Nat) : Int) < 0 := by omega
  generalize ((1 + 2 * n : Nat) : Int) = qk at *
  clear HT9 HO9 HI3 hGa hB39 hB3 HG9 HS3 HX9 hBW9 hb79 hb8 hb9 q0 q1 q2 q3 q4 q5 q6
  obtain ⟨g0, g1⟩ := HGa.out
  obtain ⟨p0, p1⟩ := HSa.out
  go_wp2_with fail
  refine (eqPlacedResult_any c _ _ _ _ _ Z _ HOa.out.is (HIa.out.is (by omega)) hm).mono ?_
  rintro e wb ⟨rfl, hbb⟩
  have hwb := hbb.size
  have HGb : Hid (R2P wb w5.heap.size c (.slice a1 m cap1)) := HGa.out.below hbb
  have HSb : Hid (R2P wb w2.heap.size c (.slice a0 m cap0)) := HSa.out.below hbb
  have HOb : Hid (OwnP wb V.heap.size (.slice a1 m cap1) m Z) := HOa.out.below hbb
  have HIb : Hid (UnderP w3.heap.size wb a0 m Z) := HIa.out.below hbb (by omega)
  have HBb : Hid (Below W.heap.size W wb) := bl_then HBa.out hbb
  clear HOa HIa HBa HGa HSa hbb g0 g1 p0 p1
  obtain ⟨g0, g1⟩ := HGb.out
  -- the answer is marked
  obtain ⟨row, hrow, Hmark⟩ := mark_ownP c V.heap.size w5.heap.size m cap1 a1 Z Z wb w5 HOb.out HU5.out hm
  have Hmark' := (show Hid _ from Hmark)
  have Hrow := (show Hid _ from hrow)
  clear Hmark hrow
  have hqm : ¬ ((1 + 5 * m : Nat) : Int) < 0 := by omega
  have Hheld : Hid (∀ w, OwnP w V.heap.size (.slice a1 m cap1) m (mkP 1) → Calls Try.prog 16 #[.agg #[.int .i64 c, .slice a1 m cap1], .int .i64 1] w fun e w' => e = .returned (.int .i64 ((1 + 5 * m : Nat) : Int)) ∧ Below w.heap.size w w') := fun w h => heldPlacedResult_any c a1 m cap1 w h.is hm
  generalize ((1 + 5 * m : Nat) : Int) = qm at *
  go_wp2_with fail
  refine Calls.mono Hmark'.out ?_
  rintro e wc ⟨rfl, hGc, hOc⟩
  have hwc := hGc.size
  have HGc : Hid (R2P wc w5.heap.size c (.slice a1 m cap1)) := HGb.out.row hGc (fun s hs => by have := Hrow.out s hs; omega)
  have HSc : Hid (R2P wc w2.heap.size c (.slice a0 m cap0)) := HSb.out.row hGc (fun s hs => by have := Hrow.out s hs; omega)
  have HOc : Hid (OwnP wc V.heap.size (.slice a1 m cap1) m (mkP 1)) := hOc
  have HIc : Hid (UnderP w3.heap.size wc a0 m Z) := HIb.out.row hGc (fun s hs => by have := Hrow.out s hs; omega)
  have HBc : Hid (Below W.heap.size W wc) := HBb.out.trans (below_rowP hGc (fun s hs => by have := Hrow.out s hs; omega) (by omega))
  clear g0 g1 hOc hGc HBb HIb HOb HGb HSb Hmark'
  obtain ⟨g0, g1⟩ := HGc.out
  go_wp2_with fail
  refine (Hheld.out _ HOc.out).mono ?_
  rintro e wd ⟨rfl, hbd⟩
  have hwd := hbd.size
  have HGd : Hid (R2P wd w5.heap.size c (.slice a1 m cap1)) := HGc.out.below hbd
  have HSd : Hid (R2P wd w2.heap.size c (.slice a0 m cap0)) := HSc.out.below hbd
  have HOd : Hid (OwnP wd V.heap.size (.slice a1 m cap1) m (mkP 1)) := HOc.out.below hbd
  have HId : Hid (UnderP w3.heap.size wd a0 m Z) := HIc.out.below hbd (by omega)
  have HBd : Hid (Below W.heap.size W wd) := bl_then HBc.out hbd
  clear g0 g1 HOc HIc HBc hbd HGc HSc
  obtain ⟨q0, q1, q2, q3, q4, q5, q6⟩ := HFW.out.below HBd.out hlW
  simp only [Nat.zero_add] at q0 q1 q2 q3 q4 q5 q6
  go_wp2_with fail
  -- once more
  refine (toFeature_any id la ki wi a n cap X Y lab pr _ (HI.out.below HBd.out) hn).mono ?_
  rintro e we ⟨be, rfl, hlee, hlte, hpe, hbe⟩
  have HPe : Hid (PtsAt we be 0 n X Y) := hpe
  clear hpe q0 q1 q2 q3 q4 q5 q6
  go_wp2_with fail
  refine (Him.out _ _ HPe.out hlte).mono ?_
  rintro e wf ⟨vf, rfl, hOf, hbf⟩
  obtain ⟨af, capf, rfl, hcf, hIf⟩ := hOf.pts
  have hbdf := bl_then hbe hbf
  have hwf := hbdf.size
  have HGf : Hid (R2P wf w5.heap.size c (.slice a1 m cap1)) := HGd.out.below hbdf
  have HSf : Hid (R2P wf w2.heap.size c (.slice a0 m cap0)) := HSd.out.below hbdf
  have HOf : Hid (OwnP wf V.heap.size (.slice a1 m cap1) m (mkP 1)) := HOd.out.below hbdf
  have HIf : Hid (UnderP w3.heap.size wf a0 m Z) := HId.out.below hbdf (by omega)
  have HBf : Hid (Below W.heap.size W wf) := bl_then HBd.out hbdf
  have HJf : Hid (IsLb wf af m Z) := hIf
  clear HOd HId HBd HGd HSd hbdf hIf hOf hbe hbf HPe
  obtain ⟨p0, p1⟩ := HSf.out
  have hlf2 := HSf.out.lt
  go_wp2_with fail
  generalize hWg : (wf.alloc _ : World) = wg
  have hbg : Below wf.heap.size wf wg := by subst hWg; (repeat (first | exact Below.refl _ _ | assumption | refine Below.drew ?_ | refine bl_alloc ?_ _ | refine bl_then ?_ (by assumption) | refine Below.setCell ?_ (by first | omega | (simp; done) | (simp; omega)) _ | refine bl_store ?_ ?_ _ _))
  clear hWg p0 p1
  have hwg := hbg.size
  refine (eqPlacedResult_any c _ _ _ _ _ Z _ (HJf.out.below hbg) ((HIf.out.below hbg (by omega)).is (by omega)) hm).mono ?_
  rintro e wh ⟨rfl, hbh⟩
  have hbfh := bl_then hbg hbh
  have HOh : Hid (OwnP wh V.heap.size (.slice a1 m cap1) m (mkP 1)) := HOf.out.below hbfh
  have HBh : Hid (Below W.heap.size W wh) := bl_then HBf.out hbfh
  obtain ⟨g0, g1⟩ := HGf.out.below hbfh
  clear HOf HIf HBf HJf HGf HSf hbfh hbg hbh
  go_wp2_with fail
  refine (Hheld.out _ HOh.out).mono ?_
  rintro e wi ⟨rfl, hbi⟩
  have HBi : Hid (Below w.heap.size w wi) := bl_then HB0.out (bl_then HBh.out hbi)
  clear hbi
  go_wp2
  go_ret
  exact ⟨rfl, HBi.out⟩

set_option maxHeartbeats 1000000 in
theorem FnExactLabelBox_big (z id la ki wi : Int) (lab : ByteArray) (pr : Int) (a : Option Addr) (n cap : Nat) (w : World) (hbig : 1048576 < n + lab.size) (hm : n ≤ maxLen) (hls : lab.size ≤ maxLen) :
    Calls Try.prog 4 #[.agg #[.int .i64 id, .int .i64 la, .int .i64 ki, .int .i64 wi, .slice a n cap, .string lab, .int .i64 pr], .int .i64 z] w fun e w' => e = .returned (.bool true) ∧ Below w.heap.size w w' := by
  have HM : Hid (n ≤ maxLen ∧ lab.size ≤ maxLen) := ⟨hm, hls⟩
  clear hm hls
  have hz : szF 1048576 n lab.size = -1 := by unfold szF; rw [if_pos hbig]
  go_enter Try.func4, Try.ntmps4
  go_wp2_with (go_at_call 5; refine (szFeature_any _ _ _ _ _ _ _ _ _ 1048576 _ (by omega) HM.out.1 HM.out.2).mono ?_; rintro e w' ⟨rfl, hb⟩)
  go_ret
  exact ⟨rfl, by (repeat (first | exact Below.refl _ _ | assumption | refine Below.drew ?_ | refine bl_alloc ?_ _ | refine bl_then ?_ (by assumption) | refine Below.setCell ?_ (by first | omega | (simp; done) | (simp; omega)) _ | refine bl_store ?_ ?_ _ _))⟩
end Go.Proofs.Ytncaibchkaadbaa
