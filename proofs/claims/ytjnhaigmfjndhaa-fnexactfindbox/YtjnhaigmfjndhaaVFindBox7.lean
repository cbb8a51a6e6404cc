/- Entries: how lists of them lie in memory; they are copied and compared. -/
import Derived.Test.YtjnhaigmfjndhaaVFindBox3
import Derived.Test.YtjnhaigmfjndhaaVFindBox4
import Derived.Test.YtjnhaigmfjndhaaVFindBox6
namespace Go.Proofs.Ytjnhaigmfjndhaa
open Go.RowKit
set_option linter.unusedSimpArgs false
set_option linter.unusedVariables false
set_option maxRecDepth 100000

/-- An entry: its Id and its box. -/
structure Ent where
  id : Int
  a : Int
  b : Int
  c : Int
  d : Int
abbrev entV (e : Ent) : Value := .agg #[.int .i64 e.id, .int .i64 e.a, .int .i64 e.b, .int .i64 e.c, .int .i64 e.d]
def EntAt (w : World) (p o : Nat) (e : Ent) : Prop := w.cell? ⟨p, o, none⟩ = some (.int .i64 e.id) ∧ w.cell? ⟨p, o + 1, none⟩ = some (.int .i64 e.a) ∧ w.cell? ⟨p, o + 2, none⟩ = some (.int .i64 e.b) ∧ w.cell? ⟨p, o + 3, none⟩ = some (.int .i64 e.c) ∧ w.cell? ⟨p, o + 4, none⟩ = some (.int .i64 e.d)
theorem EntAt.below {w w' : World} {p o B : Nat} {e : Ent} (h : EntAt w p o e) (hb : Below B w w') (hp : p < B) : EntAt w' p o e := by
  obtain ⟨h0, h1, h2, h3, h4⟩ := h
  exact ⟨(hb.cell (p := ⟨p, o, none⟩) hp).trans h0, (hb.cell (p := ⟨p, o + 1, none⟩) hp).trans h1, (hb.cell (p := ⟨p, o + 2, none⟩) hp).trans h2, (hb.cell (p := ⟨p, o + 3, none⟩) hp).trans h3, (hb.cell (p := ⟨p, o + 4, none⟩) hp).trans h4⟩
/-- From the address on lie n entries. -/
def EsAt (w : World) (p off n : Nat) (E : Nat → Ent) : Prop := ∀ i, i < n → EntAt w p (off + i * 5) (E i)
theorem EsAt.below {w w' : World} {p off n B : Nat} {E : Nat → Ent} (h : EsAt w p off n E) (hb : Below B w w') (hp : p < B) : EsAt w' p off n E := fun i hi => (h i hi).below hb hp
def IsEs (w : World) (a : Option Addr) (n : Nat) (E : Nat → Ent) : Prop := n = 0 ∨ ∃ b off, a = some ⟨b, off, none⟩ ∧ b < w.heap.size ∧ EsAt w b off n E
theorem IsEs.below {w w' : World} {a : Option Addr} {n : Nat} {E : Nat → Ent} (h : IsEs w a n E) (hb : Below w.heap.size w w') : IsEs w' a n E := by
  rcases h with h | ⟨b, off, e, hl, hp⟩
  · exact .inl h
  · exact .inr ⟨b, off, e, Nat.lt_of_lt_of_le hl hb.size, hp.below hb hl⟩
theorem There.out' {w : World} {O r n o : Nat} {x : Value} (h : There w r n) (hne : O ≠ r) : There (w.setCell ⟨O, o, none⟩ x) r n := fun i hi => by
  obtain ⟨u, hu⟩ := (h i hi).1
  refine ⟨⟨u, ?_⟩, ?_⟩
  · rw [set1_other (fun e => hne (by injection e))]; exact hu
  · rw [World.frozen?_setCell]; exact (h i hi).2
/-- Five stores: an entry is laid. -/
def lay5 (W : World) (B o : Nat) (e : Ent) : World := (((((W.setCell ⟨B, o, none⟩ (.int .i64 e.id)).setCell ⟨B, o + 1, none⟩ (.int .i64 e.a)).setCell ⟨B, o + 2, none⟩ (.int .i64 e.b)).setCell ⟨B, o + 3, none⟩ (.int .i64 e.c)).setCell ⟨B, o + 4, none⟩ (.int .i64 e.d))
theorem lay5_other {W : World} {B o : Nat} {e : Ent} {p : Addr} (h : p.block ≠ B ∨ p.off < o ∨ o + 4 < p.off) : (lay5 W B o e).cell? p = W.cell? p := by
  have ne : ∀ k : Nat, k ≤ 4 → (⟨B, o + k, none⟩ : Addr) ≠ p := fun k hk e => by subst e; simp at h; omega
  have ne0 : (⟨B, o, none⟩ : Addr) ≠ p := ne 0 (by omega)
  unfold lay5
  rw [set1_other (ne 4 (by omega)), set1_other (ne 3 (by omega)), set1_other (ne 2 (by omega)), set1_other (ne 1 (by omega)), set1_other ne0]
theorem lay5_there {W : World} {B o m : Nat} {e : Ent} (h : There W B m) : There (lay5 W B o e) B m := by
  unfold lay5
  exact (((((h.set _ _).set _ _).set _ _).set _ _).set _ _)
theorem lay5_size (W : World) (B o : Nat) (e : Ent) : (lay5 W B o e).heap.size = W.heap.size := by unfold lay5; simp
theorem lay5_below {V W : World} {n B o : Nat} {e : Ent} (h : Below n V W) (hB : n ≤ B) : Below n V (lay5 W B o e) := by
  unfold lay5
  exact (((((h.setCell hB _).setCell hB _).setCell hB _).setCell hB _).setCell hB _)
theorem lay5_at {W : World} {B o m : Nat} {e : Ent} (h : There W B m) (ho : o + 4 < m) : EntAt (lay5 W B o e) B o e := by
  have ne : ∀ i j : Nat, i ≠ j → (⟨B, i, none⟩ : Addr) ≠ ⟨B, j, none⟩ := fun i j hij h => hij (by injection h)
  obtain ⟨u0, g0⟩ := (h (o) (by omega)).1
  obtain ⟨u1, g1⟩ := ((h.set (o) (.int .i64 e.id)) (o + 1) (by omega)).1
  obtain ⟨u2, g2⟩ := (((h.set (o) (.int .i64 e.id)).set (o + 1) (.int .i64 e.a)) (o + 2) (by omega)).1
  obtain ⟨u3, g3⟩ := ((((h.set (o) (.int .i64 e.id)).set (o + 1) (.int .i64 e.a)).set (o + 2) (.int .i64 e.b)) (o + 3) (by omega)).1
  obtain ⟨u4, g4⟩ := (((((h.set (o) (.int .i64 e.id)).set (o + 1) (.int .i64 e.a)).set (o + 2) (.int .i64 e.b)).set (o + 3) (.int .i64 e.c)) (o + 4) (by omega)).1
  unfold lay5
  refine ⟨?_, ?_, ?_, ?_, ?_⟩
  · rw [set1_other (ne (o + 4) (o) (by omega)), set1_other (ne (o + 3) (o) (by omega)), set1_other (ne (o + 2) (o) (by omega)), set1_other (ne (o + 1) (o) (by omega))]; exact set1_same g0
  · rw [set1_other (ne (o + 4) (o + 1) (by omega)), set1_other (ne (o + 3) (o + 1) (by omega)), set1_other (ne (o + 2) (o + 1) (by omega))]; exact set1_same g1
  · rw [set1_other (ne (o + 4) (o + 2) (by omega)), set1_other (ne (o + 3) (o + 2) (by omega))]; exact set1_same g2
  · rw [set1_other (ne (o + 4) (o + 3) (by omega))]; exact set1_same g3
  · exact set1_same g4
theorem EsAt.lay {W : World} {B n k : Nat} {E : Nat → Ent} (h : EsAt W B 0 k E) (hT : There W B (n * 5)) (hk : k < n) : EsAt (lay5 W B (k * 5) (E k)) B 0 (k + 1) E := fun i hi => by
  by_cases e : i = k
  · subst e
    rw [Nat.zero_add]
    exact lay5_at hT (by omega)
  · have h' := h i (by omega)
    unfold EntAt at h' ⊢
    rw [lay5_other (.inr (.inl (by simp; omega))), lay5_other (.inr (.inl (by simp; omega))), lay5_other (.inr (.inl (by simp; omega))), lay5_other (.inr (.inl (by simp; omega))), lay5_other (.inr (.inl (by simp; omega)))]
    exact h'
abbrev zeroE : Array Value := #[.int .i64 0, .int .i64 0, .int .i64 0, .int .i64 0, .int .i64 0]
theorem info_ie : (Try.prog.info? 69).map (fun i => (i.zero, i.size, i.bytes)) = some (some (.agg zeroE), 5, 40) := by kernel_rfl
theorem make_ents (n : Nat) (h : n ≤ 1048576) (w : World) :
    (Instr.makeSlice 43 (.int .i64 (n : Int)) (.int .i64 (n : Int))).run Try.prog w = .ok (.slice (some ⟨w.heap.size, 0, none⟩) n n) (w.alloc (.cells (madeCells zeroE (n * 5)) 69)) := by
  obtain ⟨i, hi, hz, hs, hb⟩ := info_parts info_ie
  have hr := run_make (P := Try.prog) w 43 69 i _ Try.underlying43 hi hz .i64 .i64 (n : Int) (n : Int) (by omega) (Int.le_refl _) (by rw [hb]; omega) (by omega)
  simp only [Int.toNat_natCast, hs] at hr
  exact hr
theorem there_madeE (n : Nat) (w : World) (t : TypeId) : There (w.alloc (.cells (madeCells zeroE n) t)) w.heap.size n := fun o ho => by
  have hz := size_madeCells zeroE n
  refine ⟨⟨(madeCells zeroE n)[o]'(by rw [hz]; exact ho), ?_⟩, World.frozen?_alloc_at _ _ _ _ rfl⟩
  rw [World.cell?_alloc_at _ _ _ _ rfl]
  exact Array.getElem?_eq_getElem _

set_option maxHeartbeats 2000000 in
theorem toEntry_any (e : Ent) (w : World) : Calls Try.prog 64 #[entV e] w fun r w' => r = .returned (entV e) ∧ Below w.heap.size w w' := by
  go_enter Try.func64, Try.ntmps64
  go_wp2_with fail
  generalize hW : (((w.alloc _).alloc _).alloc _ : World) = W
  have hB0 : Below w.heap.size w W := by subst hW; (repeat (first | exact Below.refl _ _ | assumption | refine Below.drew ?_ | refine bl_alloc ?_ _ | refine bl_then ?_ (by assumption) | refine Below.setCell ?_ (by first | omega | (simp; done) | (simp; omega)) _ | refine bl_store ?_ ?_ _ _))
  have hT1 : There W (w.heap.size + 1) 5 := fun o ho => by
    subst hW
    have hc : o = 0 ∨ o = 1 ∨ o = 2 ∨ o = 3 ∨ o = 4 := by omega
    rcases hc with rfl | rfl | rfl | rfl | rfl <;> exact ⟨⟨_, by simp [go_sem]; rfl⟩, by simp [go_sem]⟩
  have hT2 : There W (w.heap.size + 1 + 1) 5 := fun o ho => by
    subst hW
    have hc : o = 0 ∨ o = 1 ∨ o = 2 ∨ o = 3 ∨ o = 4 := by omega
    rcases hc with rfl | rfl | rfl | rfl | rfl <;> exact ⟨⟨_, by simp [go_sem]; rfl⟩, by simp [go_sem]⟩
  have c0 : W.cell? ⟨w.heap.size + 1 + 1, 0, none⟩ = some (.int .i64 e.id) := by subst hW; simp [go_sem]
  have hsz : w.heap.size + 1 + 1 < W.heap.size := by subst hW; simp
  clear hW
  refine (toBox_any _ _ _ _ _).mono ?_
  rintro r w1 ⟨rfl, hb1⟩
  have hT1' := hT1.below hb1
  have hT2' := hT2.below hb1
  have c0' : w1.cell? ⟨w.heap.size + 1 + 1, 0, none⟩ = some (.int .i64 e.id) := (hb1.cell (p := ⟨w.heap.size + 1 + 1, 0, none⟩) hsz).trans c0
  have HB1 : Hid (Below w.heap.size w w1) := bl_then hB0 hb1
  have s0 := hT1'.cell 0 (by omega)
  have s1 := hT1'.cell 1 (by omega)
  have s2 := hT1'.cell 2 (by omega)
  have s3 := hT1'.cell 3 (by omega)
  have s4 := hT1'.cell 4 (by omega)
  have y0 := (hT1' 0 (by omega)).2
  have y1 := (hT1' 1 (by omega)).2
  have y2 := (hT1' 2 (by omega)).2
  have y3 := (hT1' 3 (by omega)).2
  have y4 := (hT1' 4 (by omega)).2
  have t0 := hT2'.cell 0 (by omega)
  have t1 := hT2'.cell 1 (by omega)
  have t2 := hT2'.cell 2 (by omega)
  have t3 := hT2'.cell 3 (by omega)
  have t4 := hT2'.cell 4 (by omega)
  have z0 := (hT2' 0 (by omega)).2
  have z1 := (hT2' 1 (by omega)).2
  have z2 := (hT2' 2 (by omega)).2
  have z3 := (hT2' 3 (by omega)).2
  have z4 := (hT2' 4 (by omega)).2
  have HT1 : Hid (There w1 (w.heap.size + 1) 5) := hT1'
  clear hT1 hT2 c0 hb1 hB0 hT1' hT2' t0
  have hsz' := hsz
  clear hsz
  go_wp2_with fail
  have key : ∀ (T : Array Value) (Wf : World), T[2]?.getD undef = .pointer (some ⟨w.heap.size + 1, 0, none⟩) → EntAt Wf (w.heap.size + 1) 0 e → (results Try.f64 T).run Try.prog Wf = .ok (entV e) Wf := fun T Wf hT ⟨h0, h1, h2, h3, h4⟩ => by
    simp only [Nat.zero_add] at h0 h1 h2 h3 h4
    simp [results, Try.results64, go_sem, hT, h0, h1, h2, h3, h4]
  have hL : ∀ V : World, There V (w.heap.size + 1) 5 → EntAt (lay5 V (w.heap.size + 1) 0 e) (w.heap.size + 1) 0 e := fun V hV => lay5_at hV (by omega)
  refine bodyPost_ret (key _ _ rfl (hL _ ?_)) rfl ⟨rfl, ?_⟩
  · exact ((((HT1.out.out' (by omega)).out' (by omega)).out' (by omega)).out' (by omega))
  · exact (((((((((HB1.out.setCell (by simp; omega) _).setCell (by simp; omega) _).setCell (by simp; omega) _).setCell (by simp; omega) _).setCell (by simp) _).setCell (by simp) _).setCell (by simp) _).setCell (by simp) _).setCell (by simp) _)
set_option maxHeartbeats 4000000 in
theorem toEntryS_any (a : Option Addr) (n cap : Nat) (E : Nat → Ent) (w : World) (hp : IsEs w a n E) (hmax : n ≤ 1048576) :
    Calls Try.prog 48 #[.slice a n cap] w fun e w' => ∃ b, e = .returned (.slice (some ⟨b, 0, none⟩) n n) ∧ w.heap.size ≤ b ∧ b < w'.heap.size ∧ EsAt w' b 0 n E ∧ There w' b (n * 5) ∧ Below w.heap.size w w' := by
  have hmk := make_ents n hmax
  have HP : Hid (IsEs w a n E) := hp
  clear hp
  go_enter Try.func48, Try.ntmps48
  go_wp2
  generalize hW : (w.alloc _ : World) = W
  have HB0 : Hid (Below w.heap.size w W) := by show Below _ _ _; subst hW; (repeat (first | exact Below.refl _ _ | assumption | refine Below.drew ?_ | refine bl_alloc ?_ _ | refine bl_then ?_ (by assumption) | refine Below.setCell ?_ (by first | omega | (simp; done) | (simp; omega)) _ | refine bl_store ?_ ?_ _ _))
  have HT0 : Hid (There W w.heap.size (n * 5)) := by show There _ _ _; subst hW; exact there_madeE _ _ _
  have HL0 : Hid (w.heap.size < W.heap.size) := by show _ < _; subst hW; simp
  clear hW hmk
  go_loopw [4] (fun i wr => ∃ (k : Nat), k ≤ n ∧ i = .int .i64 k ∧ Below w.heap.size w wr ∧ There wr w.heap.size (n * 5) ∧ EsAt wr w.heap.size 0 k E ∧ w.heap.size < wr.heap.size) (fun i _ => n - (intOf i).toNat)
  case atStart => exact ⟨0, by omega, rfl, HB0.out, HT0.out, fun i hi => by omega, HL0.out⟩
  case round =>
    obtain ⟨k, hk, rfl, hB, hT, hO, hlw⟩ := hrel
    by_cases hlt : k < n
    · rcases HP.out with h0 | ⟨b, off, rfl, hbl, hpt⟩
      · omega
      · obtain ⟨f0, f1, f2, f3, f4⟩ := (hpt.below hB hbl) k hlt
        have HB : Hid (Below w.heap.size w wr) := hB
        have HT : Hid (There wr w.heap.size (n * 5)) := hT
        have HO : Hid (EsAt wr w.heap.size 0 k E) := hO
        clear hB hT hO hpt
        have hi : (k : Int) < (n : Int) := by omega
        have hi0 : (0 : Int) ≤ (k : Int) := by omega
        go_wp2_with fail
        refine (toEntry_any (E k) _).mono ?_
        rintro e w' ⟨rfl, hb⟩
        have hT' := HT.out.below hb
        have t0 := hT'.cell (k * 5 + 0) (by omega)
        have t1 := hT'.cell (k * 5 + 1) (by omega)
        have t2 := hT'.cell (k * 5 + 2) (by omega)
        have t3 := hT'.cell (k * 5 + 3) (by omega)
        have t4 := hT'.cell (k * 5 + 4) (by omega)
        have y0 := (hT' (k * 5 + 0) (by omega)).2
        have y1 := (hT' (k * 5 + 1) (by omega)).2
        have y2 := (hT' (k * 5 + 2) (by omega)).2
        have y3 := (hT' (k * 5 + 3) (by omega)).2
        have y4 := (hT' (k * 5 + 4) (by omega)).2
        simp only [Nat.add_zero] at t0 y0
        have HT' : Hid (There w' w.heap.size (n * 5)) := hT'
        have HBn : Hid (Below wr.heap.size wr w') := hb
        clear hT' hb f0 f1 f2 f3 f4
        go_wp2
        go_roundw
        case rel =>
          refine ⟨k + 1, by omega, by go_num, ?_, ?_, ?_, ?_⟩
          · exact lay5_below (e := E k) (B := w.heap.size) (o := k * 5) (HB.out.trans (HBn.out.mono HB.out.size)) (Nat.le_refl _)
          · exact lay5_there (e := E k) (B := w.heap.size) (o := k * 5) HT'.out
          · exact EsAt.lay (HO.out.below HBn.out hlw) HT'.out hlt
          · have := HBn.out.size
            show _ < (lay5 w' w.heap.size (k * 5) (E k)).heap.size
            rw [lay5_size]; omega
        case measure => simp [intOf]; omega
    · go_wp2
      go_ret
      have hkn : k = n := by omega
      subst hkn
      exact ⟨_, rfl, Nat.le_refl _, hlw, hO, hT, hB⟩
set_option maxHeartbeats 2000000 in
theorem eqEntry_any (e : Ent) (w : World) : Calls Try.prog 61 #[entV e, entV e] w fun r w' => r = .returned (.bool true) ∧ Below w.heap.size w w' := by
  go_enter Try.func61, Try.ntmps61
  go_wp2_with (go_at_call 58; refine (eqBox_any _ _ _ _ _).mono ?_; rintro e w' ⟨rfl, hb⟩)
  go_ret
  exact ⟨rfl, by (repeat (first | exact Below.refl _ _ | assumption | refine Below.drew ?_ | refine bl_alloc ?_ _ | refine bl_then ?_ (by assumption) | refine Below.setCell ?_ (by first | omega | (simp; done) | (simp; omega)) _ | refine bl_store ?_ ?_ _ _))⟩
set_option maxHeartbeats 4000000 in
theorem eqEntryS_any (a a' : Option Addr) (n cap cap' : Nat) (E : Nat → Ent) (w : World) (hp : IsEs w a n E) (hq : IsEs w a' n E) (hmax : n ≤ 1048576) :
    Calls Try.prog 40 #[.slice a n cap, .slice a' n cap'] w fun e w' => e = .returned (.bool true) ∧ Below w.heap.size w w' := by
  have HP : Hid (IsEs w a n E) := hp
  have HQ : Hid (IsEs w a' n E) := hq
  clear hp hq
  go_enter Try.func40, Try.ntmps40
  go_wp2
  go_loopw [5] (fun i wr => ∃ k : Nat, k ≤ n ∧ i = .int .i64 k ∧ Below w.heap.size w wr) (fun i _ => n - (intOf i).toNat)
  case atStart => exact ⟨0, by omega, rfl, Below.refl _ _⟩
  case round =>
    obtain ⟨k, hk, rfl, hB⟩ := hrel
    by_cases hlt : k < n
    · rcases HP.out with h0 | ⟨b, off, rfl, hb, hpt⟩
      · omega
      rcases HQ.out with h0 | ⟨d, off', rfl, hd, hqt⟩
      · omega
      have hpr := hpt.below hB hb
      have hqr := hqt.below hB hd
      have hbr : b < wr.heap.size := Nat.lt_of_lt_of_le hb hB.size
      have hdr : d < wr.heap.size := Nat.lt_of_lt_of_le hd hB.size
      have c0 : ∀ W', Below wr.heap.size wr W' → W'.cell? ⟨b, off + k * 5, none⟩ = some (.int .i64 (E k).id) := fun W' h => (hpr.below h hbr k hlt).1
      have c1 : ∀ W', Below wr.heap.size wr W' → W'.cell? ⟨b, off + k * 5 + 1, none⟩ = some (.int .i64 (E k).a) := fun W' h => (hpr.below h hbr k hlt).2.1
      have c2 : ∀ W', Below wr.heap.size wr W' → W'.cell? ⟨b, off + k * 5 + 2, none⟩ = some (.int .i64 (E k).b) := fun W' h => (hpr.below h hbr k hlt).2.2.1
      have c3 : ∀ W', Below wr.heap.size wr W' → W'.cell? ⟨b, off + k * 5 + 3, none⟩ = some (.int .i64 (E k).c) := fun W' h => (hpr.below h hbr k hlt).2.2.2.1
      have c4 : ∀ W', Below wr.heap.size wr W' → W'.cell? ⟨b, off + k * 5 + 4, none⟩ = some (.int .i64 (E k).d) := fun W' h => (hpr.below h hbr k hlt).2.2.2.2
      have d0 : ∀ W', Below wr.heap.size wr W' → W'.cell? ⟨d, off' + k * 5, none⟩ = some (.int .i64 (E k).id) := fun W' h => (hqr.below h hdr k hlt).1
      have d1 : ∀ W', Below wr.heap.size wr W' → W'.cell? ⟨d, off' + k * 5 + 1, none⟩ = some (.int .i64 (E k).a) := fun W' h => (hqr.below h hdr k hlt).2.1
      have d2 : ∀ W', Below wr.heap.size wr W' → W'.cell? ⟨d, off' + k * 5 + 2, none⟩ = some (.int .i64 (E k).b) := fun W' h => (hqr.below h hdr k hlt).2.2.1
      have d3 : ∀ W', Below wr.heap.size wr W' → W'.cell? ⟨d, off' + k * 5 + 3, none⟩ = some (.int .i64 (E k).c) := fun W' h => (hqr.below h hdr k hlt).2.2.2.1
      have d4 : ∀ W', Below wr.heap.size wr W' → W'.cell? ⟨d, off' + k * 5 + 4, none⟩ = some (.int .i64 (E k).d) := fun W' h => (hqr.below h hdr k hlt).2.2.2.2
      have HB : Hid (Below w.heap.size w wr) := hB
      have HLT : Hid (k < n) := hlt
      clear hB hpt hqt hpr hqr
      have hi : (k : Int) < (n : Int) := by omega
      have hi0 : (0 : Int) ≤ (k : Int) := by omega
      go_wp2
      go_region_held3 (fun W' => Below wr.heap.size wr W') ((repeat (first | exact Below.refl _ _ | assumption | refine Below.drew ?_ | refine bl_alloc ?_ _ | refine bl_then ?_ (by assumption) | refine Below.setCell ?_ (by first | omega | (simp; done) | (simp; omega)) _ | refine bl_store ?_ ?_ _ _)))
        (first
          | (go_at_call 61; refine (eqEntry_any (E k) _).mono ?_; rintro e w' ⟨rfl, hb⟩)
          | fail)
      go_wp2
      go_roundw
      case rel => exact ⟨k + 1, by have := HLT.out; omega, by go_num, bl_then HB.out (by assumption)⟩
      case measure => have := HLT.out; simp [intOf]; omega
    · go_wp2
      go_ret
      exact ⟨rfl, hB⟩
theorem szEntryS_no (a : Option Addr) (n cap left : Nat) (w : World) (hl : left ≤ 1048576) (hn : left < n) (hm : n ≤ maxLen) :
    Calls Try.prog 42 #[.slice a n cap, .int .i64 (left : Int)] w fun e w' => e = .returned (.int .i64 (-1)) ∧ Below w.heap.size w w' := by
  unfold maxLen at hm
  have hneg : (left : Int) - (n : Int) < 0 := by omega
  go_enter Try.func42, Try.ntmps42
  go_wp2
  go_ret
  exact ⟨rfl, by (repeat (first | exact Below.refl _ _ | assumption | refine Below.drew ?_ | refine bl_alloc ?_ _ | refine bl_then ?_ (by assumption) | refine Below.setCell ?_ (by first | omega | (simp; done) | (simp; omega)) _ | refine bl_store ?_ ?_ _ _))⟩
theorem szEntryS_ok (a : Option Addr) (n cap left : Nat) (w : World) (hl : left ≤ 1048576) (hn : n ≤ left) :
    Calls Try.prog 42 #[.slice a n cap, .int .i64 (left : Int)] w fun e w' => e = .returned (.int .i64 ((left : Int) - (n : Int))) ∧ Below w.heap.size w w' := by
  have hneg : ¬ (left : Int) - (n : Int) < 0 := by omega
  go_enter Try.func42, Try.ntmps42
  go_wp2
  go_ret
  exact ⟨rfl, by (repeat (first | exact Below.refl _ _ | assumption | refine Below.drew ?_ | refine bl_alloc ?_ _ | refine bl_then ?_ (by assumption) | refine Below.setCell ?_ (by first | omega | (simp; done) | (simp; omega)) _ | refine bl_store ?_ ?_ _ _))⟩
end Go.Proofs.Ytjnhaigmfjndhaa
