/- Lists of quads: they are copied, compared and measured. -/
import Derived.Test.YtjnhaigmfjndhaaVFindBox37
namespace Go.Proofs.Ytjnhaigmfjndhaa
open Go.RowKit Go.Shelf
set_option linter.unusedSimpArgs false
set_option linter.unusedVariables false
set_option maxRecDepth 100000

abbrev zeroQ : Array Value := #[.int .i64 0, .int .i64 0, .int .i64 0, .int .i64 0, .int .i64 0, .int .i64 0, .slice none 0 0]
theorem info_iq : (Try.prog.info? 60).map (fun i => (i.zero, i.size, i.bytes)) = some (some (.agg zeroQ), 7, 72) := by kernel_rfl
theorem make_quads (n : Nat) (h : n ≤ 1048576) (w : World) :
    (Instr.makeSlice 32 (.int .i64 (n : Int)) (.int .i64 (n : Int))).run Try.prog w = .ok (.slice (some ⟨w.heap.size, 0, none⟩) n n) (w.alloc (.cells (madeCells zeroQ (n * 7)) 60)) := by
  obtain ⟨i, hi, hz, hs, hb⟩ := info_parts info_iq
  have hr := run_make (P := Try.prog) w 32 60 i _ Try.underlying32 hi hz .i64 .i64 (n : Int) (n : Int) (by omega) (Int.le_refl _) (by rw [hb]; omega) (by omega)
  simp only [Int.toNat_natCast, hs] at hr
  exact hr
theorem there_madeQ (n : Nat) (w : World) (t : TypeId) : There (w.alloc (.cells (madeCells zeroQ n) t)) w.heap.size n := fun o ho => by
  have hz := size_madeCells zeroQ n
  refine ⟨⟨(madeCells zeroQ n)[o]'(by rw [hz]; exact ho), ?_⟩, World.frozen?_alloc_at _ _ _ _ rfl⟩
  rw [World.cell?_alloc_at _ _ _ _ rfl]
  exact Array.getElem?_eq_getElem _
/-- Block b holds the first k quads, the entries of each in a block of their own from B on. -/
def OwnQs (w : World) (B b k : Nat) (Q : Nat → Qd) (A : Nat → Option Addr) : Prop :=
  B ≤ b ∧ b < w.heap.size ∧ ∀ i, i < k → QAt w b (i * 7) (reQ Q A i) ∧ ∃ g, A i = some ⟨g, 0, none⟩ ∧ g ≠ b ∧ B ≤ g ∧ g < w.heap.size ∧ EsAt w g 0 (Q i).en (Q i).E ∧ There w g ((Q i).en * 5)
theorem OwnQs.below {w w' : World} {B b k : Nat} {Q : Nat → Qd} {A : Nat → Option Addr} (h : OwnQs w B b k Q A) (hb : Below w.heap.size w w') : OwnQs w' B b k Q A := by
  obtain ⟨h1, h2, h3⟩ := h
  refine ⟨h1, Nat.lt_of_lt_of_le h2 hb.size, fun i hi => ?_⟩
  obtain ⟨hq, g, e1, e2, e3, e4, e5, e6⟩ := h3 i hi
  exact ⟨hq.below hb h2, g, e1, e2, e3, Nat.lt_of_lt_of_le e4 hb.size, e5.below hb e4, e6.below hb⟩
theorem OwnQs.lay {W : World} {B n k g : Nat} {Q : Nat → Qd} {A : Nat → Option Addr} (h : OwnQs W B B k Q A) (hT : There W B (n * 7)) (hk : k < n) (hgB : B < g) (hg : g < W.heap.size) (hE : EsAt W g 0 (Q k).en (Q k).E) (hTe : There W g ((Q k).en * 5)) :
    OwnQs (lays W B (k * 7) (qVs { Q k with ea := some ⟨g, 0, none⟩, ec := (Q k).en })) B B (k + 1) Q (fun i => if i = k then some ⟨g, 0, none⟩ else A i) := by
  obtain ⟨h1, h2, h3⟩ := h
  refine ⟨h1, by rw [lays_size]; exact h2, fun i hi => ?_⟩
  by_cases e : i = k
  · subst e
    have e1 : reQ Q (fun j => if j = i then some ⟨g, 0, none⟩ else A j) i = { Q i with ea := some ⟨g, 0, none⟩, ec := (Q i).en } := by simp [reQ]
    rw [e1]
    exact ⟨QAt.lays hT (by omega), g, by simp, by omega, by omega, by rw [lays_size]; exact hg, hE.lays (by omega), There.laysO hTe (by omega)⟩
  · have e1 : reQ Q (fun j => if j = k then some ⟨g, 0, none⟩ else A j) i = reQ Q A i := by simp [reQ, e]
    rw [e1]
    obtain ⟨⟨q0, q1, q2, q3, q4, q5, q6⟩, g', a1, a2, a3, a4, a5, a6⟩ := h3 i (by omega)
    have old : ∀ j, j < k * 7 → (lays W B (k * 7) (qVs { Q k with ea := some ⟨g, 0, none⟩, ec := (Q k).en })).cell? ⟨B, j, none⟩ = W.cell? ⟨B, j, none⟩ := fun j hj => lays_old _ j hj
    exact ⟨⟨(old _ (by omega)).trans q0, (old _ (by omega)).trans q1, (old _ (by omega)).trans q2, (old _ (by omega)).trans q3, (old _ (by omega)).trans q4, (old _ (by omega)).trans q5, (old _ (by omega)).trans q6⟩, g', by simp [e, a1], a2, a3, by rw [lays_size]; exact a4, a5.lays a2, There.laysO a6 a2⟩
theorem OwnQs.qs {w : World} {B b n : Nat} {Q : Nat → Qd} {A : Nat → Option Addr} (h : OwnQs w B b n Q A) : QsAt w w.heap.size b 0 n (reQ Q A) :=
  ⟨h.2.1, fun i hi => by
    obtain ⟨hq, g, e1, e2, e3, e4, e5, _⟩ := h.2.2 i hi
    exact ⟨by rw [Nat.zero_add]; exact hq, .inr ⟨g, 0, e1, e4, e5⟩⟩⟩
theorem OwnQs.es {w : World} {B b n : Nat} {Q : Nat → Qd} {A : Nat → Option Addr} (h : OwnQs w B b n Q A) : ∀ i, i < n → ∃ g o, (reQ Q A i).ea = some ⟨g, o, none⟩ ∧ g < w.heap.size ∧ EsAt w g o (reQ Q A i).en (reQ Q A i).E := fun i hi => by
  obtain ⟨hq, g, e1, e2, e3, e4, e5, _⟩ := h.2.2 i hi
  exact ⟨g, 0, e1, e4, e5⟩

set_option maxHeartbeats 4000000 in
theorem toQuadS_any (a : Option Addr) (n cap : Nat) (Q : Nat → Qd) (w : World) (hp : IsQs w a n Q) (hmax : n ≤ 1048576) (hall : ∀ i, i < n → (Q i).en ≤ 1048576) :
    Calls Try.prog 7 #[.slice a n cap] w fun e w' => ∃ b A, e = .returned (.slice (some ⟨b, 0, none⟩) n n) ∧ OwnQs w' w.heap.size b n Q A ∧ There w' b (n * 7) ∧ Below w.heap.size w w' := by
  have hmk := make_quads n hmax
  have HP : Hid (IsQs w a n Q) := hp
  have HA : Hid (∀ i, i < n → (Q i).en ≤ 1048576) := hall
  clear hp hall
  go_enter Try.func7, Try.ntmps7
  go_wp2
  generalize hW : (w.alloc _ : World) = W
  have HB0 : Hid (Below w.heap.size w W) := by show Below _ _ _; subst hW; (repeat (first | exact Below.refl _ _ | assumption | refine Below.drew ?_ | refine bl_alloc ?_ _ | refine bl_then ?_ (by assumption) | refine Below.setCell ?_ (by first | omega | (simp; done) | (simp; omega)) _ | refine bl_store ?_ ?_ _ _))
  have HT0 : Hid (There W w.heap.size (n * 7)) := by show There _ _ _; subst hW; exact there_madeQ _ _ _
  have HL0 : Hid (w.heap.size < W.heap.size) := by show _ < _; subst hW; simp
  clear hW hmk
  go_loopw [4] (fun i wr => ∃ (k : Nat) (A : Nat → Option Addr), k ≤ n ∧ i = .int .i64 k ∧ Below w.heap.size w wr ∧ There wr w.heap.size (n * 7) ∧ OwnQs wr w.heap.size w.heap.size k Q A) (fun i _ => n - (intOf i).toNat)
  case atStart => exact ⟨0, fun _ => none, by omega, rfl, HB0.out, HT0.out, Nat.le_refl _, HL0.out, fun i hi => by omega⟩
  case round =>
    obtain ⟨k, A, hk, rfl, hB, hT, hO⟩ := hrel
    by_cases hlt : k < n
    · rcases HP.out with h0 | ⟨b, off, rfl, hpt⟩
      · omega
      · obtain ⟨⟨f0, f1, f2, f3, f4, f5, f6⟩, hIE⟩ := (hpt.below hB).2 k hlt
        have HIE : Hid (IsEs wr (Q k).ea (Q k).en (Q k).E) := hIE.imp id (fun ⟨b', o', e', hl', hE'⟩ => ⟨b', o', e', Nat.lt_of_lt_of_le hl' hB.size, hE'⟩)
        have HB : Hid (Below w.heap.size w wr) := hB
        have HT : Hid (There wr w.heap.size (n * 7)) := hT
        have HO : Hid (OwnQs wr w.heap.size w.heap.size k Q A) := hO
        have hnk := HA.out k hlt
        have hlw : w.heap.size < wr.heap.size := hO.2.1
        clear hB hT hO hpt hIE
        have hi : (k : Int) < (n : Int) := by omega
        have hi0 : (0 : Int) ≤ (k : Int) := by omega
        go_wp2_with fail
        refine (toQuad_any (Q k) _ HIE.out hnk).mono ?_
        rintro e w' ⟨g, rfl, hg1, hg2, hE, hTe, hb⟩
        have hT' := HT.out.below hb
        have t0 := hT'.cell (k * 7 + 0) (by omega)
        have t1 := hT'.cell (k * 7 + 1) (by omega)
        have t2 := hT'.cell (k * 7 + 2) (by omega)
        have t3 := hT'.cell (k * 7 + 3) (by omega)
        have t4 := hT'.cell (k * 7 + 4) (by omega)
        have t5 := hT'.cell (k * 7 + 5) (by omega)
        have t6 := hT'.cell (k * 7 + 6) (by omega)
        have y0 := (hT' (k * 7 + 0) (by omega)).2
        have y1 := (hT' (k * 7 + 1) (by omega)).2
        have y2 := (hT' (k * 7 + 2) (by omega)).2
        have y3 := (hT' (k * 7 + 3) (by omega)).2
        have y4 := (hT' (k * 7 + 4) (by omega)).2
        have y5 := (hT' (k * 7 + 5) (by omega)).2
        have y6 := (hT' (k * 7 + 6) (by omega)).2
        simp only [Nat.add_zero] at t0 y0
        have HT' : Hid (There w' w.heap.size (n * 7)) := hT'
        have HE : Hid (EsAt w' g 0 (Q k).en (Q k).E) := hE
        have HTe : Hid (There w' g ((Q k).en * 5)) := hTe
        have HBn : Hid (Below wr.heap.size wr w') := hb
        clear hT' hE hTe hb f0 f1 f2 f3 f4 f5 f6
        go_wp2
        go_roundw
        case rel =>
          refine ⟨k + 1, fun i => if i = k then some ⟨g, 0, none⟩ else A i, by omega, by go_num, ?_, ?_, ?_⟩
          · exact lays_below (r := w.heap.size) (o := k * 7) (vs := qVs { Q k with ea := some ⟨g, 0, none⟩, ec := (Q k).en }) (HB.out.trans (HBn.out.mono HB.out.size)) (Nat.le_refl _)
          · exact lays_there (r := w.heap.size) (vs := qVs { Q k with ea := some ⟨g, 0, none⟩, ec := (Q k).en }) (k * 7) HT'.out
          · exact OwnQs.lay (HO.out.below HBn.out) HT'.out (by omega) (by omega) hg2 HE.out HTe.out
        case measure => simp [intOf]; omega
    · go_wp2
      go_ret
      have hkn : k = n := by omega
      subst hkn
      exact ⟨_, A, rfl, hO, hT, hB⟩
set_option maxHeartbeats 2000000 in
theorem eqQuad_any (q : Qd) (a a' : Option Addr) (c c' : Nat) (w : World) (hp : IsEs w a q.en q.E) (hq : IsEs w a' q.en q.E) (hn : q.en ≤ 1048576) :
    Calls Try.prog 33 #[.agg #[.int .i64 q.a, .int .i64 q.b, .int .i64 q.c, .int .i64 q.d, .int .i64 q.dp, .int .i64 q.fi, .slice a q.en c], .agg #[.int .i64 q.a, .int .i64 q.b, .int .i64 q.c, .int .i64 q.d, .int .i64 q.dp, .int .i64 q.fi, .slice a' q.en c']] w fun e w' => e = .returned (.bool true) ∧ Below w.heap.size w w' := by
  have HP : Hid (IsEs w a q.en q.E) := hp
  have HQ : Hid (IsEs w a' q.en q.E) := hq
  clear hp hq
  go_enter Try.func33, Try.ntmps33
  go_wp2_with fail
  generalize hW : ((w.alloc _).alloc _ : World) = W
  have hB0 : Below w.heap.size w W := by subst hW; (repeat (first | exact Below.refl _ _ | assumption | refine Below.drew ?_ | refine bl_alloc ?_ _ | refine bl_then ?_ (by assumption) | refine Below.setCell ?_ (by first | omega | (simp; done) | (simp; omega)) _ | refine bl_store ?_ ?_ _ _))
  have c4 : ∀ W', Below W.heap.size W W' → W'.cell? ⟨w.heap.size, 4, none⟩ = some (.int .i64 q.dp) := fun W' h => by rw [h.cell (by subst hW; simp <;> omega)]; subst hW; simp [go_sem]
  have c5 : ∀ W', Below W.heap.size W W' → W'.cell? ⟨w.heap.size, 5, none⟩ = some (.int .i64 q.fi) := fun W' h => by rw [h.cell (by subst hW; simp <;> omega)]; subst hW; simp [go_sem]
  have c6 : ∀ W', Below W.heap.size W W' → W'.cell? ⟨w.heap.size, 6, none⟩ = some (.slice a q.en c) := fun W' h => by rw [h.cell (by subst hW; simp <;> omega)]; subst hW; simp [go_sem]
  have d4 : ∀ W', Below W.heap.size W W' → W'.cell? ⟨w.heap.size + 1, 4, none⟩ = some (.int .i64 q.dp) := fun W' h => by rw [h.cell (by subst hW; simp <;> omega)]; subst hW; simp [go_sem]
  have d5 : ∀ W', Below W.heap.size W W' → W'.cell? ⟨w.heap.size + 1, 5, none⟩ = some (.int .i64 q.fi) := fun W' h => by rw [h.cell (by subst hW; simp <;> omega)]; subst hW; simp [go_sem]
  have d6 : ∀ W', Below W.heap.size W W' → W'.cell? ⟨w.heap.size + 1, 6, none⟩ = some (.slice a' q.en c') := fun W' h => by rw [h.cell (by subst hW; simp <;> omega)]; subst hW; simp [go_sem]
  clear hW
  refine (eqBox_any _ _ _ _ _).mono ?_
  rintro e w1 ⟨rfl, hb1⟩
  have e4 := c4 w1 hb1
  have e5 := c5 w1 hb1
  have e6 := c6 w1 hb1
  have f4 := d4 w1 hb1
  have f5 := d5 w1 hb1
  have f6 := d6 w1 hb1
  have hB1 : Below w.heap.size w w1 := bl_then hB0 hb1
  clear c4 c5 c6 d4 d5 d6 hb1 hB0
  go_wp2_with fail
  refine (eqEntryS_any a a' q.en c c' q.E w1 (HP.out.below hB1) (HQ.out.below hB1) hn).mono ?_
  rintro e w2 ⟨rfl, hb2⟩
  go_wp2
  go_ret
  exact ⟨rfl, by (repeat (first | exact Below.refl _ _ | assumption | refine Below.drew ?_ | refine bl_alloc ?_ _ | refine bl_then ?_ (by assumption) | refine Below.setCell ?_ (by first | omega | (simp; done) | (simp; omega)) _ | refine bl_store ?_ ?_ _ _))⟩
set_option maxHeartbeats 4000000 in
theorem eqQuadS_any (b d n B C : Nat) (Q : Nat → Qd) (A A' : Nat → Option Addr) (w : World) (hg : OwnQs w B b n Q A) (hh : OwnQs w C d n Q A') (hn : n ≤ 1048576) (hall : ∀ i, i < n → (Q i).en ≤ 1048576) :
    Calls Try.prog 11 #[.slice (some ⟨b, 0, none⟩) n n, .slice (some ⟨d, 0, none⟩) n n] w fun e w' => e = .returned (.bool true) ∧ Below w.heap.size w w' := by
  have HG : Hid (OwnQs w B b n Q A) := hg
  have HH : Hid (OwnQs w C d n Q A') := hh
  have hbl : b < w.heap.size := hg.2.1
  have hdl : d < w.heap.size := hh.2.1
  have HS : Hid (∀ i, i < n → (Q i).en ≤ 1048576) := hall
  clear hg hh hall
  go_enter Try.func11, Try.ntmps11
  go_wp2
  go_loopw [5] (fun i wr => ∃ k : Nat, k ≤ n ∧ i = .int .i64 k ∧ Below w.heap.size w wr) (fun i _ => n - (intOf i).toNat)
  case atStart => exact ⟨0, by omega, rfl, Below.refl _ _⟩
  case round =>
    obtain ⟨k, hk, rfl, hB⟩ := hrel
    by_cases hlt : k < n
    · have hgc : ∀ W', Below wr.heap.size wr W' → QAt W' b (k * 7) (reQ Q A k) := fun W' h => ((HG.out.below hB).below h).2.2 k hlt |>.1
      have hhc : ∀ W', Below wr.heap.size wr W' → QAt W' d (k * 7) (reQ Q A' k) := fun W' h => ((HH.out.below hB).below h).2.2 k hlt |>.1
      have c0 : ∀ W', Below wr.heap.size wr W' → W'.cell? ⟨b, k * 7, none⟩ = some (.int .i64 (Q k).a) := fun W' h => (hgc W' h).1
      have c1 : ∀ W', Below wr.heap.size wr W' → W'.cell? ⟨b, k * 7 + 1, none⟩ = some (.int .i64 (Q k).b) := fun W' h => (hgc W' h).2.1
      have c2 : ∀ W', Below wr.heap.size wr W' → W'.cell? ⟨b, k * 7 + 2, none⟩ = some (.int .i64 (Q k).c) := fun W' h => (hgc W' h).2.2.1
      have c3 : ∀ W', Below wr.heap.size wr W' → W'.cell? ⟨b, k * 7 + 3, none⟩ = some (.int .i64 (Q k).d) := fun W' h => (hgc W' h).2.2.2.1
      have c4 : ∀ W', Below wr.heap.size wr W' → W'.cell? ⟨b, k * 7 + 4, none⟩ = some (.int .i64 (Q k).dp) := fun W' h => (hgc W' h).2.2.2.2.1
      have c5 : ∀ W', Below wr.heap.size wr W' → W'.cell? ⟨b, k * 7 + 5, none⟩ = some (.int .i64 (Q k).fi) := fun W' h => (hgc W' h).2.2.2.2.2.1
      have c6 : ∀ W', Below wr.heap.size wr W' → W'.cell? ⟨b, k * 7 + 6, none⟩ = some (.slice (A k) (Q k).en (Q k).en) := fun W' h => (hgc W' h).2.2.2.2.2.2
      have d0 : ∀ W', Below wr.heap.size wr W' → W'.cell? ⟨d, k * 7, none⟩ = some (.int .i64 (Q k).a) := fun W' h => (hhc W' h).1
      have d1 : ∀ W', Below wr.heap.size wr W' → W'.cell? ⟨d, k * 7 + 1, none⟩ = some (.int .i64 (Q k).b) := fun W' h => (hhc W' h).2.1
      have d2 : ∀ W', Below wr.heap.size wr W' → W'.cell? ⟨d, k * 7 + 2, none⟩ = some (.int .i64 (Q k).c) := fun W' h => (hhc W' h).2.2.1
      have d3 : ∀ W', Below wr.heap.size wr W' → W'.cell? ⟨d, k * 7 + 3, none⟩ = some (.int .i64 (Q k).d) := fun W' h => (hhc W' h).2.2.2.1
      have d4 : ∀ W', Below wr.heap.size wr W' → W'.cell? ⟨d, k * 7 + 4, none⟩ = some (.int .i64 (Q k).dp) := fun W' h => (hhc W' h).2.2.2.2.1
      have d5 : ∀ W', Below wr.heap.size wr W' → W'.cell? ⟨d, k * 7 + 5, none⟩ = some (.int .i64 (Q k).fi) := fun W' h => (hhc W' h).2.2.2.2.2.1
      have d6 : ∀ W', Below wr.heap.size wr W' → W'.cell? ⟨d, k * 7 + 6, none⟩ = some (.slice (A' k) (Q k).en (Q k).en) := fun W' h => (hhc W' h).2.2.2.2.2.2
      have KE : Hid (IsEs wr (A k) (Q k).en (Q k).E) := by
        obtain ⟨_, g, e1, _, _, e4, e5, _⟩ := (HG.out.below hB).2.2 k hlt
        exact .inr ⟨g, 0, e1, e4, e5⟩
      have KG : Hid (IsEs wr (A' k) (Q k).en (Q k).E) := by
        obtain ⟨_, g, e1, _, _, e4, e5, _⟩ := (HH.out.below hB).2.2 k hlt
        exact .inr ⟨g, 0, e1, e4, e5⟩
      have HLT : Hid (k < n) := hlt
      have hnk := HS.out k hlt
      have HB : Hid (Below w.heap.size w wr) := hB
      clear hB hgc hhc
      have hi : (k : Int) < (n : Int) := by omega
      have hi0 : (0 : Int) ≤ (k : Int) := by omega
      go_wp2
      go_region_held3 (fun W' => Below wr.heap.size wr W') ((repeat (first | exact Below.refl _ _ | assumption | refine Below.drew ?_ | refine bl_alloc ?_ _ | refine bl_then ?_ (by assumption) | refine Below.setCell ?_ (by first | omega | (simp; done) | (simp; omega)) _ | refine bl_store ?_ ?_ _ _)))
        (first
          | (go_at_call 33; refine (eqQuad_any (Q k) _ _ _ _ _ (KE.out.below (by assumption)) (KG.out.below (by assumption)) hnk).mono ?_; rintro e w' ⟨rfl, hb⟩)
          | fail)
      go_wp2
      go_roundw
      case rel => exact ⟨k + 1, by have := HLT.out; omega, by go_num, bl_then HB.out (by assumption)⟩
      case measure => have := HLT.out; simp [intOf]; omega
    · go_wp2
      go_ret
      exact ⟨rfl, hB⟩
/-- What comes in is no longer than any slice. -/
def CameQs (n : Nat) (Q : Nat → Qd) : Prop := n ≤ maxLen ∧ ∀ i, i < n → (Q i).en ≤ maxLen
/-- They are not too many. -/
def SmallQs (n : Nat) (Q : Nat → Qd) : Prop := n ≤ 1048576 ∧ (∀ i, i < n → (Q i).en ≤ 1048576) ∧ (allE Q n).length ≤ 1048576
theorem szQuad_no (q : Qd) (left : Nat) (w : World) (hl : left ≤ 1048576) (hn : left < q.en) (hm : q.en ≤ maxLen) :
    Calls Try.prog 20 #[quadV q, .int .i64 (left : Int)] w fun e w' => e = .returned (.int .i64 (-1)) ∧ Below w.heap.size w w' := by
  have HM : Hid (q.en ≤ maxLen) := hm
  clear hm
  go_enter Try.func20, Try.ntmps20
  go_wp2_with (go_at_call 42; refine (szEntryS_no _ _ _ left _ hl hn HM.out).mono ?_; rintro e w' ⟨rfl, hb⟩)
  go_ret
  exact ⟨rfl, by (repeat (first | exact Below.refl _ _ | assumption | refine Below.drew ?_ | refine bl_alloc ?_ _ | refine bl_then ?_ (by assumption) | refine Below.setCell ?_ (by first | omega | (simp; done) | (simp; omega)) _ | refine bl_store ?_ ?_ _ _))⟩
theorem szQuad_ok (q : Qd) (left : Nat) (w : World) (hl : left ≤ 1048576) (hn : q.en ≤ left) :
    Calls Try.prog 20 #[quadV q, .int .i64 (left : Int)] w fun e w' => e = .returned (.int .i64 ((left : Int) - (q.en : Int))) ∧ Below w.heap.size w w' := by
  have hneg : ¬ (left : Int) - (q.en : Int) < 0 := by omega
  go_enter Try.func20, Try.ntmps20
  go_wp2_with (go_at_call 42; refine (szEntryS_ok _ _ _ left _ hl hn).mono ?_; rintro e w' ⟨rfl, hb⟩)
  go_ret
  exact ⟨rfl, by (repeat (first | exact Below.refl _ _ | assumption | refine Below.drew ?_ | refine bl_alloc ?_ _ | refine bl_then ?_ (by assumption) | refine Below.setCell ?_ (by first | omega | (simp; done) | (simp; omega)) _ | refine bl_store ?_ ?_ _ _))⟩
set_option maxHeartbeats 4000000 in
theorem szQuadS_any (a : Option Addr) (n cap : Nat) (Q : Nat → Qd) (w : World) (hf : IsQs w a n Q) (hc : CameQs n Q) :
    Calls Try.prog 5 #[.slice a n cap, .int .i64 1048576] w fun e w' => (e = .returned (.int .i64 (-1)) ∨ ∃ m : Nat, SmallQs n Q ∧ e = .returned (.int .i64 m)) ∧ Below w.heap.size w w' := by
  obtain ⟨hc1, hc2⟩ := hc
  unfold maxLen at hc1
  have HC : Hid (∀ i, i < n → (Q i).en ≤ maxLen) := hc2
  have HF : Hid (IsQs w a n Q) := hf
  clear hc2 hf
  by_cases h0 : 1048576 < n
  · have hneg : (1048576 : Int) - (n : Int) < 0 := by omega
    go_enter Try.func5, Try.ntmps5
    go_wp2
    go_ret
    exact ⟨.inl rfl, by (repeat (first | exact Below.refl _ _ | assumption | refine Below.drew ?_ | refine bl_alloc ?_ _ | refine bl_then ?_ (by assumption) | refine Below.setCell ?_ (by first | omega | (simp; done) | (simp; omega)) _ | refine bl_store ?_ ?_ _ _))⟩
  · have hneg : ¬ (1048576 : Int) - (n : Int) < 0 := by omega
    have hn : n ≤ 1048576 := by omega
    clear hc1
    go_enter Try.func5, Try.ntmps5
    go_wp2
    go_loopw [1, 5] (fun v i wr => ∃ k m : Nat, k ≤ n ∧ v = .int .i64 m ∧ i = .int .i64 k ∧ m + (allE Q k).length ≤ 1048576 ∧ (∀ j, j < k → (Q j).en ≤ 1048576) ∧ Below w.heap.size w wr) (fun _ i _ => n - (intOf i).toNat)
    case atStart => exact ⟨0, 1048576 - n, by omega, by congr 1; omega, rfl, by simp [allE], by omega, Below.refl _ _⟩
    case round =>
      obtain ⟨k, m, hk, rfl, rfl, hm, hA, hB⟩ := hrel
      by_cases hlt : k < n
      · rcases HF.out with hz | ⟨b, off, rfl, hpt⟩
        · omega
        · obtain ⟨⟨f0, f1, f2, f3, f4, f5, f6⟩, _⟩ := (hpt.below hB).2 k hlt
          have hE := allE_succ_length Q k
          have HB : Hid (Below w.heap.size w wr) := hB
          have HA : Hid (∀ j, j < k → (Q j).en ≤ 1048576) := hA
          have HM : Hid (m + (allE Q k).length ≤ 1048576) := hm
          have HE : Hid ((allE Q (k + 1)).length = (allE Q k).length + (Q k).en) := hE
          have hm1 : m ≤ 1048576 := by omega
          have hi : (k : Int) < (n : Int) := by omega
          have hi0 : (0 : Int) ≤ (k : Int) := by omega
          clear hB hA hpt hm hE
          by_cases hbig : m < (Q k).en
          · go_wp2_with (go_at_call 20; refine (szQuad_no (Q k) m _ hm1 hbig (HC.out k hlt)).mono ?_; rintro e w' ⟨rfl, hb⟩)
            go_ret
            exact ⟨.inl rfl, bl_then HB.out hb⟩
          · have hok : (Q k).en ≤ m := by omega
            obtain ⟨m', hm'⟩ : ∃ m' : Nat, m - (Q k).en = m' := ⟨_, rfl⟩
            have e1 : (m : Int) - ((Q k).en : Int) = (m' : Int) := by omega
            have hneg' : ¬ (m' : Int) < 0 := by omega
            have HM' : Hid (m' + (allE Q (k + 1)).length ≤ 1048576) := by show _ ≤ _; rw [HE.out]; have := HM.out; omega
            have HQ : Hid (∀ w, Calls Try.prog 20 #[quadV (Q k), .int .i64 (m : Int)] w fun e w' => e = .returned (.int .i64 (m' : Int)) ∧ Below w.heap.size w w') := fun w => e1 ▸ szQuad_ok (Q k) m w hm1 hok
            clear e1 hm' hbig
            go_wp2_with (go_at_call 20; refine (HQ.out _).mono ?_; rintro e w' ⟨rfl, hb⟩)
            go_roundw
            case rel => exact ⟨k + 1, m', by omega, rfl, by go_num, HM'.out, fun j hj => by
                by_cases e : j = k
                · rw [e]; omega
                · exact HA.out j (by omega), bl_then HB.out hb⟩
            case measure => simp [intOf]; omega
      · go_wp2
        go_ret
        have hkn : k = n := by omega
        subst hkn
        exact ⟨.inr ⟨m, ⟨hn, hA, by omega⟩, rfl⟩, hB⟩
end Go.Proofs.Ytjnhaigmfjndhaa
