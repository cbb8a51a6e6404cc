/- Several texts in one. -/
import Derived.Test.YtbdhhclamgmfkaaGreatVFrameOf22
import Derived.Test.YtbdhhclamgmfkaaGreatVFrameOf1
import Derived.Test.YtbdhhclamgmfkaaGreatVFrameOf5
import Derived.Deep.Slices
import Derived.Deep.SlicePairs

/- Requests: how lists of them lie in memory; they are copied and compared. -/

namespace Go.Proofs.YtbdhhclamgmfkaaGreat
open Go.RowKit
set_option linter.unusedSimpArgs false
set_option linter.unusedVariables false
set_option maxRecDepth 100000

/-- A request: its ref, when it is due, how many tries there were. -/
structure Req where
  z : Int
  x : Int
  y : Int
  du : Int
  tr : Int
abbrev reqV (e : Req) : Value := .agg #[.int .i64 e.z, .int .i64 e.x, .int .i64 e.y, .int .i64 e.du, .int .i64 e.tr]
def ReqAt (w : World) (p o : Nat) (e : Req) : Prop := w.cell? ⟨p, o, none⟩ = some (.int .i64 e.z) ∧ w.cell? ⟨p, o + 1, none⟩ = some (.int .i64 e.x) ∧ w.cell? ⟨p, o + 2, none⟩ = some (.int .i64 e.y) ∧ w.cell? ⟨p, o + 3, none⟩ = some (.int .i64 e.du) ∧ w.cell? ⟨p, o + 4, none⟩ = some (.int .i64 e.tr)
theorem ReqAt.below {w w' : World} {p o B : Nat} {e : Req} (h : ReqAt w p o e) (hb : Below B w w') (hp : p < B) : ReqAt w' p o e := by
  obtain ⟨h0, h1, h2, h3, h4⟩ := h
  exact ⟨(hb.cell (p := ⟨p, o, none⟩) hp).trans h0, (hb.cell (p := ⟨p, o + 1, none⟩) hp).trans h1, (hb.cell (p := ⟨p, o + 2, none⟩) hp).trans h2, (hb.cell (p := ⟨p, o + 3, none⟩) hp).trans h3, (hb.cell (p := ⟨p, o + 4, none⟩) hp).trans h4⟩
/-- From the address on lie n requests. -/
def WsAt (w : World) (p off n : Nat) (E : Nat → Req) : Prop := ∀ i, i < n → ReqAt w p (off + i * 5) (E i)
theorem WsAt.below {w w' : World} {p off n B : Nat} {E : Nat → Req} (h : WsAt w p off n E) (hb : Below B w w') (hp : p < B) : WsAt w' p off n E := fun i hi => (h i hi).below hb hp
def IsWs (w : World) (a : Option Addr) (n : Nat) (E : Nat → Req) : Prop := n = 0 ∨ ∃ b off, a = some ⟨b, off, none⟩ ∧ b < w.heap.size ∧ WsAt w b off n E
theorem IsWs.below {w w' : World} {a : Option Addr} {n : Nat} {E : Nat → Req} (h : IsWs w a n E) (hb : Below w.heap.size w w') : IsWs w' a n E := by
  rcases h with h | ⟨b, off, e, hl, hp⟩
  · exact .inl h
  · exact .inr ⟨b, off, e, Nat.lt_of_lt_of_le hl hb.size, hp.below hb hl⟩
theorem There.outW {w : World} {O r n o : Nat} {x : Value} (h : There w r n) (hne : O ≠ r) : There (w.setCell ⟨O, o, none⟩ x) r n := fun i hi => by
  obtain ⟨u, hu⟩ := (h i hi).1
  refine ⟨⟨u, ?_⟩, ?_⟩
  · rw [set1_other (fun e => hne (by injection e))]; exact hu
  · rw [World.frozen?_setCell]; exact (h i hi).2
/-- Five stores: an request is laid. -/
def lay5w (W : World) (B o : Nat) (e : Req) : World := (((((W.setCell ⟨B, o, none⟩ (.int .i64 e.z)).setCell ⟨B, o + 1, none⟩ (.int .i64 e.x)).setCell ⟨B, o + 2, none⟩ (.int .i64 e.y)).setCell ⟨B, o + 3, none⟩ (.int .i64 e.du)).setCell ⟨B, o + 4, none⟩ (.int .i64 e.tr))
theorem lay5w_other {W : World} {B o : Nat} {e : Req} {p : Addr} (h : p.block ≠ B ∨ p.off < o ∨ o + 4 < p.off) : (lay5w W B o e).cell? p = W.cell? p := by
  have ne : ∀ k : Nat, k ≤ 4 → (⟨B, o + k, none⟩ : Addr) ≠ p := fun k hk e => by subst e; simp at h; omega
  have ne0 : (⟨B, o, none⟩ : Addr) ≠ p := ne 0 (by omega)
  unfold lay5w
  rw [set1_other (ne 4 (by omega)), set1_other (ne 3 (by omega)), set1_other (ne 2 (by omega)), set1_other (ne 1 (by omega)), set1_other ne0]
theorem lay5w_there {W : World} {B o m : Nat} {e : Req} (h : There W B m) : There (lay5w W B o e) B m := by
  unfold lay5w
  exact (((((h.set _ _).set _ _).set _ _).set _ _).set _ _)
theorem lay5w_size (W : World) (B o : Nat) (e : Req) : (lay5w W B o e).heap.size = W.heap.size := by unfold lay5w; simp
theorem lay5w_below {V W : World} {n B o : Nat} {e : Req} (h : Below n V W) (hB : n ≤ B) : Below n V (lay5w W B o e) := by
  unfold lay5w
  exact (((((h.setCell hB _).setCell hB _).setCell hB _).setCell hB _).setCell hB _)
theorem lay5w_at {W : World} {B o m : Nat} {e : Req} (h : There W B m) (ho : o + 4 < m) : ReqAt (lay5w W B o e) B o e := by
  have ne : ∀ i j : Nat, i ≠ j → (⟨B, i, none⟩ : Addr) ≠ ⟨B, j, none⟩ := fun i j hij h => hij (by injection h)
  obtain ⟨u0, g0⟩ := (h (o) (by omega)).1
  obtain ⟨u1, g1⟩ := ((h.set (o) (.int .i64 e.z)) (o + 1) (by omega)).1
  obtain ⟨u2, g2⟩ := (((h.set (o) (.int .i64 e.z)).set (o + 1) (.int .i64 e.x)) (o + 2) (by omega)).1
  obtain ⟨u3, g3⟩ := ((((h.set (o) (.int .i64 e.z)).set (o + 1) (.int .i64 e.x)).set (o + 2) (.int .i64 e.y)) (o + 3) (by omega)).1
  obtain ⟨u4, g4⟩ := (((((h.set (o) (.int .i64 e.z)).set (o + 1) (.int .i64 e.x)).set (o + 2) (.int .i64 e.y)).set (o + 3) (.int .i64 e.du)) (o + 4) (by omega)).1
  unfold lay5w
  refine ⟨?_, ?_, ?_, ?_, ?_⟩
  · rw [set1_other (ne (o + 4) (o) (by omega)), set1_other (ne (o + 3) (o) (by omega)), set1_other (ne (o + 2) (o) (by omega)), set1_other (ne (o + 1) (o) (by omega))]; exact set1_same g0
  · rw [set1_other (ne (o + 4) (o + 1) (by omega)), set1_other (ne (o + 3) (o + 1) (by omega)), set1_other (ne (o + 2) (o + 1) (by omega))]; exact set1_same g1
  · rw [set1_other (ne (o + 4) (o + 2) (by omega)), set1_other (ne (o + 3) (o + 2) (by omega))]; exact set1_same g2
  · rw [set1_other (ne (o + 4) (o + 3) (by omega))]; exact set1_same g3
  · exact set1_same g4
theorem WsAt.lay {W : World} {B n k : Nat} {E : Nat → Req} (h : WsAt W B 0 k E) (hT : There W B (n * 5)) (hk : k < n) : WsAt (lay5w W B (k * 5) (E k)) B 0 (k + 1) E := fun i hi => by
  by_cases e : i = k
  · subst e
    rw [Nat.zero_add]
    exact lay5w_at hT (by omega)
  · have h' := h i (by omega)
    unfold ReqAt at h' ⊢
    rw [lay5w_other (.inr (.inl (by simp; omega))), lay5w_other (.inr (.inl (by simp; omega))), lay5w_other (.inr (.inl (by simp; omega))), lay5w_other (.inr (.inl (by simp; omega))), lay5w_other (.inr (.inl (by simp; omega)))]
    exact h'
abbrev zeroW : Array Value := #[.int .i64 0, .int .i64 0, .int .i64 0, .int .i64 0, .int .i64 0]
theorem info_iw : (Tryz.prog.info? 89).map (fun i => (i.zero, i.size, i.bytes)) = some (some (.agg zeroW), 5, 40) := by kernel_rfl
theorem make_reqs (n : Nat) (h : n ≤ 1048576) (w : World) :
    (Instr.makeSlice 39 (.int .i64 (n : Int)) (.int .i64 (n : Int))).run Tryz.prog w = .ok (.slice (some ⟨w.heap.size, 0, none⟩) n n) (w.alloc (.cells (madeCells zeroW (n * 5)) 89)) := by
  obtain ⟨i, hi, hz, hs, hb⟩ := info_parts info_iw
  have hr := run_make (P := Tryz.prog) w 39 89 i _ Tryz.underlying39 hi hz .i64 .i64 (n : Int) (n : Int) (by omega) (Int.le_refl _) (by rw [hb]; omega) (by omega)
  simp only [Int.toNat_natCast, hs] at hr
  exact hr
theorem there_madeW (n : Nat) (w : World) (t : TypeId) : There (w.alloc (.cells (madeCells zeroW n) t)) w.heap.size n := fun o ho => by
  have hz := size_madeCells zeroW n
  refine ⟨⟨(madeCells zeroW n)[o]'(by rw [hz]; exact ho), ?_⟩, World.frozen?_alloc_at _ _ _ _ rfl⟩
  rw [World.cell?_alloc_at _ _ _ _ rfl]
  exact Array.getElem?_eq_getElem _

set_option maxHeartbeats 2000000 in
theorem toRequest_any (e : Req) (w : World) : Calls Tryz.prog 53 #[reqV e] w fun r w' => r = .returned (reqV e) ∧ Below w.heap.size w w' := by
  go_enter Tryz.func53, Tryz.ntmps53
  go_wp2_with fail
  generalize hW : (((w.alloc _).alloc _).alloc _ : World) = W
  have hB0 : Below w.heap.size w W := by subst hW; (repeat (first | exact Below.refl _ _ | assumption | refine Below.drew ?_ | refine bl_alloc ?_ _ | refine bl_then ?_ (by assumption) | refine Below.setCell ?_ (by first | omega | (simp; done) | (simp; omega)) _ | refine bl_store ?_ ?_ _ _))
  have hT1 : There W (w.heap.size + 1) 5 := fun o ho => by
    subst hW
    have hc : o = 0 ∨ o = 1 ∨ o = 2 ∨ o = 3 ∨ o = 4 := by omega
    rcases hc with rfl | rfl | rfl | rfl | rfl <;> exact ⟨⟨_, by simp [go_sem]; rfl⟩, by simp [go_sem]⟩
  have hT2 : There W (w.heap.size + 1 + 1) 5 := fun o ho => by
    subst hW
    have hc : o = 0 ∨ o = 1 ∨ o = 2 ∨ o = 3 ∨ o = 4 := by omega
    rcases hc with rfl | rfl | rfl | rfl | rfl <;> exact ⟨⟨_, by simp [go_sem]; rfl⟩, by simp [go_sem]⟩
  have c3 : W.cell? ⟨w.heap.size, 3, none⟩ = some (.int .i64 e.du) := by subst hW; simp [go_sem]
  have c4 : W.cell? ⟨w.heap.size, 4, none⟩ = some (.int .i64 e.tr) := by subst hW; simp [go_sem]
  have hsz : w.heap.size + 1 + 1 < W.heap.size := by subst hW; simp
  clear hW
  refine (toRef_any _ _ _ _).mono ?_
  rintro r w1 ⟨rfl, hb1⟩
  have hT1' := hT1.below hb1
  have hT2' := hT2.below hb1
  have c3' : w1.cell? ⟨w.heap.size, 3, none⟩ = some (.int .i64 e.du) := (hb1.cell (p := ⟨w.heap.size, 3, none⟩) (by show w.heap.size < _; omega)).trans c3
  have c4' : w1.cell? ⟨w.heap.size, 4, none⟩ = some (.int .i64 e.tr) := (hb1.cell (p := ⟨w.heap.size, 4, none⟩) (by show w.heap.size < _; omega)).trans c4
  have HB1 : Hid (Below w.heap.size w w1) := bl_then hB0 hb1
  have s0 := hT1'.cell 0 (by omega)
  have s1 := hT1'.cell 1 (by omega)
  have s2 := hT1'.cell 2 (by omega)
  have s3 := hT1'.cell 3 (by omega)
  have s4 := hT1'.cell 4 (by omega)
  have y0 := (hT1' 0 (by omega)).2
  have y1 := (hT1' 1 (by omega)).2
  have y2 := (hT1' 2 (by omega)).2
  have y3 := (hT1' 3 (by omega)).2
  have y4 := (hT1' 4 (by omega)).2
  have t0 := hT2'.cell 0 (by omega)
  have t1 := hT2'.cell 1 (by omega)
  have t2 := hT2'.cell 2 (by omega)
  have t3 := hT2'.cell 3 (by omega)
  have t4 := hT2'.cell 4 (by omega)
  have z0 := (hT2' 0 (by omega)).2
  have z1 := (hT2' 1 (by omega)).2
  have z2 := (hT2' 2 (by omega)).2
  have z3 := (hT2' 3 (by omega)).2
  have z4 := (hT2' 4 (by omega)).2
  have HT1 : Hid (There w1 (w.heap.size + 1) 5) := hT1'
  clear hT1 hT2 c3 c4 hb1 hB0 hT1' hT2'
  have hsz' := hsz
  clear hsz
  go_wp2_with fail
  have key : ∀ (T : Array Value) (Wf : World), T[2]?.getD undef = .pointer (some ⟨w.heap.size + 1, 0, none⟩) → ReqAt Wf (w.heap.size + 1) 0 e → (results Tryz.f53 T).run Tryz.prog Wf = .ok (reqV e) Wf := fun T Wf hT ⟨h0, h1, h2, h3, h4⟩ => by
    simp only [Nat.zero_add] at h0 h1 h2 h3 h4
    simp [results, Tryz.results53, go_sem, hT, h0, h1, h2, h3, h4]
  have hL : ∀ V : World, There V (w.heap.size + 1) 5 → ReqAt (lay5w V (w.heap.size + 1) 0 e) (w.heap.size + 1) 0 e := fun V hV => lay5w_at hV (by omega)
  refine bodyPost_ret (key _ _ rfl (hL _ ?_)) rfl ⟨rfl, ?_⟩
  · exact (((((HT1.out.outW (by omega)).outW (by omega)).outW (by omega)).outW (by omega)).outW (by omega))
  · exact ((((((((((HB1.out.setCell (by simp; omega) _).setCell (by simp; omega) _).setCell (by simp; omega) _).setCell (by simp; omega) _).setCell (by simp; omega) _).setCell (by simp) _).setCell (by simp) _).setCell (by simp) _).setCell (by simp) _).setCell (by simp) _)
set_option maxHeartbeats 4000000 in
theorem toRequestS_any (a : Option Addr) (n cap : Nat) (E : Nat → Req) (w : World) (hp : IsWs w a n E) (hmax : n ≤ 1048576) :
    Calls Tryz.prog 28 #[.slice a n cap] w fun e w' => ∃ b, e = .returned (.slice (some ⟨b, 0, none⟩) n n) ∧ w.heap.size ≤ b ∧ b < w'.heap.size ∧ WsAt w' b 0 n E ∧ There w' b (n * 5) ∧ Below w.heap.size w w' := by
  have hmk := make_reqs n hmax
  have HP : Hid (IsWs w a n E) := hp
  clear hp
  go_enter Tryz.func28, Tryz.ntmps28
  go_wp2
  generalize hW : (w.alloc _ : World) = W
  have HB0 : Hid (Below w.heap.size w W) := by show Below _ _ _; subst hW; (repeat (first | exact Below.refl _ _ | assumption | refine Below.drew ?_ | refine bl_alloc ?_ _ | refine bl_then ?_ (by assumption) | refine Below.setCell ?_ (by first | omega | (simp; done) | (simp; omega)) _ | refine bl_store ?_ ?_ _ _))
  have HT0 : Hid (There W w.heap.size (n * 5)) := by show There _ _ _; subst hW; exact there_madeW _ _ _
  have HL0 : Hid (w.heap.size < W.heap.size) := by show _ < _; subst hW; simp
  clear hW hmk
  go_loopw [4] (fun i wr => ∃ (k : Nat), k ≤ n ∧ i = .int .i64 k ∧ Below w.heap.size w wr ∧ There wr w.heap.size (n * 5) ∧ WsAt wr w.heap.size 0 k E ∧ w.heap.size < wr.heap.size) (fun i _ => n - (intOf i).toNat)
  case atStart => exact ⟨0, by omega, rfl, HB0.out, HT0.out, fun i hi => by omega, HL0.out⟩
  case round =>
    obtain ⟨k, hk, rfl, hB, hT, hO, hlw⟩ := hrel
    by_cases hlt : k < n
    · rcases HP.out with h0 | ⟨b, off, rfl, hbl, hpt⟩
      · omega
      · obtain ⟨f0, f1, f2, f3, f4⟩ := (hpt.below hB hbl) k hlt
        have HB : Hid (Below w.heap.size w wr) := hB
        have HT : Hid (There wr w.heap.size (n * 5)) := hT
        have HO : Hid (WsAt wr w.heap.size 0 k E) := hO
        clear hB hT hO hpt
        have hi : (k : Int) < (n : Int) := by omega
        have hi0 : (0 : Int) ≤ (k : Int) := by omega
        go_wp2_with fail
        refine (toRequest_any (E k) _).mono ?_
        rintro e w' ⟨rfl, hb⟩
        have hT' := HT.out.below hb
        have t0 := hT'.cell (k * 5 + 0) (by omega)
        have t1 := hT'.cell (k * 5 + 1) (by omega)
        have t2 := hT'.cell (k * 5 + 2) (by omega)
        have t3 := hT'.cell (k * 5 + 3) (by omega)
        have t4 := hT'.cell (k * 5 + 4) (by omega)
        have y0 := (hT' (k * 5 + 0) (by omega)).2
        have y1 := (hT' (k * 5 + 1) (by omega)).2
        have y2 := (hT' (k * 5 + 2) (by omega)).2
        have y3 := (hT' (k * 5 + 3) (by omega)).2
        have y4 := (hT' (k * 5 + 4) (by omega)).2
        simp only [Nat.add_zero] at t0 y0
        have HT' : Hid (There w' w.heap.size (n * 5)) := hT'
        have HBn : Hid (Below wr.heap.size wr w') := hb
        clear hT' hb f0 f1 f2 f3 f4
        go_wp2
        go_roundw
        case rel =>
          refine ⟨k + 1, by omega, by go_num, ?_, ?_, ?_, ?_⟩
          · exact lay5w_below (e := E k) (B := w.heap.size) (o := k * 5) (HB.out.trans (HBn.out.mono HB.out.size)) (Nat.le_refl _)
          · exact lay5w_there (e := E k) (B := w.heap.size) (o := k * 5) HT'.out
          · exact WsAt.lay (HO.out.below HBn.out hlw) HT'.out hlt
          · have := HBn.out.size
            show _ < (lay5w w' w.heap.size (k * 5) (E k)).heap.size
            rw [lay5w_size]; omega
        case measure => simp [intOf]; omega
    · go_wp2
      go_ret
      have hkn : k = n := by omega
      subst hkn
      exact ⟨_, rfl, Nat.le_refl _, hlw, hO, hT, hB⟩
set_option maxHeartbeats 2000000 in
theorem eqRequest_any (e : Req) (w : World) : Calls Tryz.prog 65 #[reqV e, reqV e] w fun r w' => r = .returned (.bool true) ∧ Below w.heap.size w w' := by
  go_enter Tryz.func65, Tryz.ntmps65
  go_wp2_with fail
  generalize hW : ((w.alloc _).alloc _ : World) = W
  have hB0 : Below w.heap.size w W := by subst hW; (repeat (first | exact Below.refl _ _ | assumption | refine Below.drew ?_ | refine bl_alloc ?_ _ | refine bl_then ?_ (by assumption) | refine Below.setCell ?_ (by first | omega | (simp; done) | (simp; omega)) _ | refine bl_store ?_ ?_ _ _))
  have c3 : ∀ W', Below W.heap.size W W' → W'.cell? ⟨w.heap.size, 3, none⟩ = some (.int .i64 e.du) := fun W' h => by rw [h.cell (by subst hW; simp; omega)]; subst hW; simp [go_sem]
  have c4 : ∀ W', Below W.heap.size W W' → W'.cell? ⟨w.heap.size, 4, none⟩ = some (.int .i64 e.tr) := fun W' h => by rw [h.cell (by subst hW; simp; omega)]; subst hW; simp [go_sem]
  have d3 : ∀ W', Below W.heap.size W W' → W'.cell? ⟨w.heap.size + 1, 3, none⟩ = some (.int .i64 e.du) := fun W' h => by rw [h.cell (by subst hW; simp)]; subst hW; simp [go_sem]
  have d4 : ∀ W', Below W.heap.size W W' → W'.cell? ⟨w.heap.size + 1, 4, none⟩ = some (.int .i64 e.tr) := fun W' h => by rw [h.cell (by subst hW; simp)]; subst hW; simp [go_sem]
  clear hW
  refine (eqRef_any _ _ _ _).mono ?_
  rintro r w1 ⟨rfl, hb1⟩
  have k3 := c3 w1 hb1
  have k4 := c4 w1 hb1
  have l3 := d3 w1 hb1
  have l4 := d4 w1 hb1
  have HB1 : Hid (Below w.heap.size w w1) := bl_then hB0 hb1
  clear c3 c4 d3 d4 hb1 hB0
  go_wp2
  go_ret
  exact ⟨rfl, HB1.out⟩
set_option maxHeartbeats 4000000 in
theorem eqRequestS_any (a a' : Option Addr) (n cap cap' : Nat) (E : Nat → Req) (w : World) (hp : IsWs w a n E) (hq : IsWs w a' n E) (hmax : n ≤ 1048576) :
    Calls Tryz.prog 34 #[.slice a n cap, .slice a' n cap'] w fun e w' => e = .returned (.bool true) ∧ Below w.heap.size w w' := by
  have HP : Hid (IsWs w a n E) := hp
  have HQ : Hid (IsWs w a' n E) := hq
  clear hp hq
  go_enter Tryz.func34, Tryz.ntmps34
  go_wp2
  go_loopw [5] (fun i wr => ∃ k : Nat, k ≤ n ∧ i = .int .i64 k ∧ Below w.heap.size w wr) (fun i _ => n - (intOf i).toNat)
  case atStart => exact ⟨0, by omega, rfl, Below.refl _ _⟩
  case round =>
    obtain ⟨k, hk, rfl, hB⟩ := hrel
    by_cases hlt : k < n
    · rcases HP.out with h0 | ⟨b, off, rfl, hb, hpt⟩
      · omega
      rcases HQ.out with h0 | ⟨d, off', rfl, hd, hqt⟩
      · omega
      have hpr := hpt.below hB hb
      have hqr := hqt.below hB hd
      have hbr : b < wr.heap.size := Nat.lt_of_lt_of_le hb hB.size
      have hdr : d < wr.heap.size := Nat.lt_of_lt_of_le hd hB.size
      have c0 : ∀ W', Below wr.heap.size wr W' → W'.cell? ⟨b, off + k * 5, none⟩ = some (.int .i64 (E k).z) := fun W' h => (hpr.below h hbr k hlt).1
      have c1 : ∀ W', Below wr.heap.size wr W' → W'.cell? ⟨b, off + k * 5 + 1, none⟩ = some (.int .i64 (E k).x) := fun W' h => (hpr.below h hbr k hlt).2.1
      have c2 : ∀ W', Below wr.heap.size wr W' → W'.cell? ⟨b, off + k * 5 + 2, none⟩ = some (.int .i64 (E k).y) := fun W' h => (hpr.below h hbr k hlt).2.2.1
      have c3 : ∀ W', Below wr.heap.size wr W' → W'.cell? ⟨b, off + k * 5 + 3, none⟩ = some (.int .i64 (E k).du) := fun W' h => (hpr.below h hbr k hlt).2.2.2.1
      have c4 : ∀ W', Below wr.heap.size wr W' → W'.cell? ⟨b, off + k * 5 + 4, none⟩ = some (.int .i64 (E k).tr) := fun W' h => (hpr.below h hbr k hlt).2.2.2.2
      have d0 : ∀ W', Below wr.heap.size wr W' → W'.cell? ⟨d, off' + k * 5, none⟩ = some (.int .i64 (E k).z) := fun W' h => (hqr.below h hdr k hlt).1
      have d1 : ∀ W', Below wr.heap.size wr W' → W'.cell? ⟨d, off' + k * 5 + 1, none⟩ = some (.int .i64 (E k).x) := fun W' h => (hqr.below h hdr k hlt).2.1
      have d2 : ∀ W', Below wr.heap.size wr W' → W'.cell? ⟨d, off' + k * 5 + 2, none⟩ = some (.int .i64 (E k).y) := fun W' h => (hqr.below h hdr k hlt).2.2.1
      have d3 : ∀ W', Below wr.heap.size wr W' → W'.cell? ⟨d, off' + k * 5 + 3, none⟩ = some (.int .i64 (E k).du) := fun W' h => (hqr.below h hdr k hlt).2.2.2.1
      have d4 : ∀ W', Below wr.heap.size wr W' → W'.cell? ⟨d, off' + k * 5 + 4, none⟩ = some (.int .i64 (E k).tr) := fun W' h => (hqr.below h hdr k hlt).2.2.2.2
      have HB : Hid (Below w.heap.size w wr) := hB
      have HLT : Hid (k < n) := hlt
      clear hB hpt hqt hpr hqr
      have hi : (k : Int) < (n : Int) := by omega
      have hi0 : (0 : Int) ≤ (k : Int) := by omega
      go_wp2
      go_region_held3 (fun W' => Below wr.heap.size wr W') ((repeat (first | exact Below.refl _ _ | assumption | refine Below.drew ?_ | refine bl_alloc ?_ _ | refine bl_then ?_ (by assumption) | refine Below.setCell ?_ (by first | omega | (simp; done) | (simp; omega)) _ | refine bl_store ?_ ?_ _ _)))
        (first
          | (go_at_call 65; refine (eqRequest_any (E k) _).mono ?_; rintro e w' ⟨rfl, hb⟩)
          | fail)
      go_wp2
      go_roundw
      case rel => exact ⟨k + 1, by have := HLT.out; omega, by go_num, bl_then HB.out (by assumption)⟩
      case measure => have := HLT.out; simp [intOf]; omega
    · go_wp2
      go_ret
      exact ⟨rfl, hB⟩
theorem szRequestS_no (a : Option Addr) (n cap left : Nat) (w : World) (hl : left ≤ 1048576) (hn : left < n) (hm : n ≤ maxLen) :
    Calls Tryz.prog 23 #[.slice a n cap, .int .i64 (left : Int)] w fun e w' => e = .returned (.int .i64 (-1)) ∧ Below w.heap.size w w' := by
  unfold maxLen at hm
  have hneg : (left : Int) - (n : Int) < 0 := by omega
  go_enter Tryz.func23, Tryz.ntmps23
  go_wp2
  go_ret
  exact ⟨rfl, by (repeat (first | exact Below.refl _ _ | assumption | refine Below.drew ?_ | refine bl_alloc ?_ _ | refine bl_then ?_ (by assumption) | refine Below.setCell ?_ (by first | omega | (simp; done) | (simp; omega)) _ | refine bl_store ?_ ?_ _ _))⟩
theorem szRequestS_ok (a : Option Addr) (n cap left : Nat) (w : World) (hl : left ≤ 1048576) (hn : n ≤ left) :
    Calls Tryz.prog 23 #[.slice a n cap, .int .i64 (left : Int)] w fun e w' => e = .returned (.int .i64 ((left : Int) - (n : Int))) ∧ Below w.heap.size w w' := by
  have hneg : ¬ (left : Int) - (n : Int) < 0 := by omega
  go_enter Tryz.func23, Tryz.ntmps23
  go_wp2
  go_ret
  exact ⟨rfl, by (repeat (first | exact Below.refl _ _ | assumption | refine Below.drew ?_ | refine bl_alloc ?_ _ | refine bl_then ?_ (by assumption) | refine Below.setCell ?_ (by first | omega | (simp; done) | (simp; omega)) _ | refine bl_store ?_ ?_ _ _))⟩
end Go.Proofs.YtbdhhclamgmfkaaGreat
/- How a viewer that came in is read. -/

namespace Go.Proofs.YtbdhhclamgmfkaaGreat
open Go.ChangeShapes Go.WideShapes Go.ChangeAt Go.RowKit Go.Deep
set_option linter.unusedVariables false
set_option linter.unusedSimpArgs false
set_option maxRecDepth 100000

theorem cells_lcV : Tryz.prog.cellsOf 23 = 5 := by kernel_rfl
theorem trod_camV {H : Type} {enc : TypeId × Value → H} {w : World} {base : Nat} {spare : Nat → Bool} {held : Bool} {n : Nat} {cs : List Value} {x : DataW H × List MemPlace}
    (h : DataW.trod enc Tryz.prog w base spare held n 23 cs = some x) : ∃ a b c d e : Int, cs = [.int .i64 a, .int .i64 b, .int .i64 c, .int .i64 d, .int .i64 e] := by
  obtain ⟨xs, m, rfl, hx, hl, hxl, hf⟩ := DataW.trod_struct Tryz.underlying23 h
  rw [cells_lcV] at hl
  have hxl3 : xs.length = 5 := hxl
  match cs, hl with
  | [v0, v1, v2, v3, v4], _ =>
    match xs, hxl3 with
    | [x0, x1, x2, x3, x4], _ =>
      have h0 := hf 0 _ rfl
      have h1 := hf 1 _ rfl
      have h2 := hf 2 _ rfl
      have h3 := hf 3 _ rfl
      have h4 := hf 4 _ rfl
      simp [cells_i64] at h0 h1 h2 h3 h4
      obtain ⟨a, e0, _, _⟩ := DataW.trod_int Tryz.underlying2 h0
      obtain ⟨b, e1, _, _⟩ := DataW.trod_int Tryz.underlying2 h1
      obtain ⟨c, e2, _, _⟩ := DataW.trod_int Tryz.underlying2 h2
      obtain ⟨d, e3, _, _⟩ := DataW.trod_int Tryz.underlying2 h3
      obtain ⟨e, e4, _, _⟩ := DataW.trod_int Tryz.underlying2 h4
      simp at e0 e1 e2 e3 e4
      subst e0 e1 e2 e3 e4
      exact ⟨a, b, c, d, e, rfl⟩
theorem cells_lwV : Tryz.prog.cellsOf 96 = 5 := by kernel_rfl
theorem trod_rqV {H : Type} {enc : TypeId × Value → H} {w : World} {base : Nat} {spare : Nat → Bool} {held : Bool} {n : Nat} {cs : List Value} {x : DataW H × List MemPlace}
    (h : DataW.trod enc Tryz.prog w base spare held n 96 cs = some x) : ∃ a b c d e : Int, cs = [.int .i64 a, .int .i64 b, .int .i64 c, .int .i64 d, .int .i64 e] := by
  obtain ⟨xs, m, rfl, hx, hl, hxl, hf⟩ := DataW.trod_struct Tryz.underlying96 h
  rw [cells_lwV] at hl
  have hxl3 : xs.length = 3 := hxl
  match cs, hl with
  | [v0, v1, v2, v3, v4], _ =>
    match xs, hxl3 with
    | [x0, x1, x2], _ =>
      have h0 := hf 0 _ rfl
      have h1 := hf 1 _ rfl
      have h2 := hf 2 _ rfl
      simp [cells_i64, cells_lrT] at h0 h1 h2
      obtain ⟨a, b, c, e0⟩ := trod_refT h0
      obtain ⟨d, e1, _, _⟩ := DataW.trod_int Tryz.underlying2 h1
      obtain ⟨e, e2, _, _⟩ := DataW.trod_int Tryz.underlying2 h2
      simp at e0 e1 e2
      obtain ⟨rfl, rfl, rfl⟩ := e0
      subst e1 e2
      exact ⟨a, b, c, d, e, rfl⟩
theorem trod_rqsV {H : Type} {enc : TypeId × Value → H} {w : World} {base fuel : Nat} {held : Bool} {cs : List Value} {y : DataW H × List MemPlace}
    (hf : DataW.trod enc Tryz.prog w base (fun _ => true) held fuel 27 cs = some y) :
    ∃ (a : Option Addr) (n cap : Nat) (E : Nat → Req), cs = [.slice a n cap] ∧ (IsWs w a n E ∧ n ≤ cap ∧ cap ≤ maxLen) := by
  rcases open_slice Tryz.underlying27 hf with ⟨hcs, _⟩ | ⟨x, l, c, m, n, D, Pl, hcs, _, hl, hc, hm, _, hx⟩
  · exact ⟨none, 0, 0, fun _ => ⟨0, 0, 0, 0, 0⟩, hcs, .inl rfl, Nat.le_refl _, Nat.zero_le _⟩
  · simp at hm
    subst hm
    have each : ∀ i, ∃ e : Req, i < l → ∀ k, k < 5 → w.cell? (x.add (i * 5 + k)) = [Value.int .i64 e.z, .int .i64 e.x, .int .i64 e.y, .int .i64 e.du, .int .i64 e.tr][k]? := by
      intro i
      by_cases hi : i < l
      · obtain ⟨cs', h1, h2⟩ := hx i (by omega)
        rw [cells_lwV] at h1
        obtain ⟨_, hlen, hcell⟩ := World.cells?_some h1
        obtain ⟨k0, k1, k2, k3, k4, rfl⟩ := trod_rqV h2
        refine ⟨⟨k0, k1, k2, k3, k4⟩, fun _ k hk => ?_⟩
        have := hcell k hk
        rw [add_add] at this
        exact this
      · exact ⟨⟨0, 0, 0, 0, 0⟩, fun h => absurd h hi⟩
    obtain ⟨E, hE⟩ := Classical.skolem.1 each
    refine ⟨some x, l, _, E, hcs, ?_, hl, hc⟩
    by_cases h0 : l = 0
    · exact .inl h0
    · right
      obtain ⟨b, off, spot⟩ := x
      have e0 := hE 0 (by omega) 0 (by omega)
      simp at e0
      have hspot : spot = none := by simpa [Addr.add] using World.cell?_spot e0
      subst hspot
      refine ⟨b, off, rfl, ?_, fun i hi => ?_⟩
      · have := World.block_lt_of_cell? _ _ e0
        simpa [Addr.add] using this
      · have hc5 := hE i hi
        have k0 := hc5 0 (by omega)
        have k1 := hc5 1 (by omega)
        have k2 := hc5 2 (by omega)
        have k3 := hc5 3 (by omega)
        have k4 := hc5 4 (by omega)
        rw [add_plain] at k0 k1 k2 k3 k4
        simp only [← Nat.add_assoc, Nat.add_zero] at k0 k1 k2 k3 k4
        exact ⟨k0, k1, k2, k3, k4⟩
theorem trod_cache {H : Type} {enc : TypeId × Value → H} {w : World} {base fuel : Nat} {held : Bool} {cs : List Value} {y : DataW H × List MemPlace}
    (h : DataW.trod enc Tryz.prog w base (fun _ => true) held fuel 26 cs = some y) :
    ∃ (s : Int) (a : Option Addr) (n cap : Nat) (K : Nat → Kp), cs = [.int .i64 s, .slice a n cap] ∧ (IsKs w a n K ∧ CameKs n K) := by
  obtain ⟨y0, y1, m, hx, hl, h0, h1⟩ := trod_struct2 Tryz.underlying26 h
  simp only [cells_i64, cells_lks] at h0 h1
  obtain ⟨s, e0, _, _⟩ := DataW.trod_int Tryz.underlying2 h0
  obtain ⟨a, k, cap, K, e1, hK⟩ := trod_kepts h1
  refine ⟨s, a, k, cap, K, ?_, hK⟩
  have hlen : cs.length = 2 := by rw [hl]; exact cells_lc
  match cs, hlen with
  | [v0, v1], _ =>
    simp at e0 e1
    simp [e0, e1]
theorem cells_lws : Tryz.prog.cellsOf 27 = 1 := by kernel_rfl
theorem cells_lv : Tryz.prog.cellsOf 29 = 10 := by kernel_rfl
theorem open_viewer {H : Type} {enc : TypeId × Value → H} {w : World} {base b0 : Nat} {held : Bool} {r : Reach} {v : Value} {d : DataW H} {p : List MemPlace}
    (hv : Value.okWide Tryz.prog w r b0 29 v) (h : DataW.Trod enc Tryz.prog w base (fun _ => true) held 29 v d p) :
    ∃ (z x y wd ht now s : Int) (ka : Option Addr) (kn kc : Nat) (K : Nat → Kp) (ra : Option Addr) (rn rc : Nat) (E : Nat → Req) (bad : Int),
      v = .agg #[.int .i64 z, .int .i64 x, .int .i64 y, .int .i64 wd, .int .i64 ht, .int .i64 now, .int .i64 s, .slice ka kn kc, .slice ra rn rc, .int .i64 bad] ∧ ((IsKs w ka kn K ∧ CameKs kn K) ∧ IsWs w ra rn E ∧ rn ≤ rc ∧ rc ≤ maxLen) := by
  obtain ⟨cs, rfl, hsz⟩ := okWide_struct Tryz.underlying29 hv
  obtain ⟨n, h⟩ := h
  obtain ⟨xs, m, e, hx, hl, hxl, hf⟩ := DataW.trod_struct Tryz.underlying29 h
  have hxl5 : xs.length = 5 := hxl
  simp only [Value.cells] at hl hf
  rw [cells_lv] at hl
  match xs, hxl5 with
  | [x0, x1, x2, x3, x4], _ =>
    have h0 := hf 0 _ rfl
    have h1 := hf 1 _ rfl
    have h2 := hf 2 _ rfl
    have h3 := hf 3 _ rfl
    have h4 := hf 4 _ rfl
    match hcs : cs.toList, hl with
    | [v0, v1, v2, v3, v4, v5, v6, v7, v8, v9], _ =>
      rw [hcs] at h0 h1 h2 h3 h4
      simp [cells_i64, cells_lcV, cells_lc, cells_lws] at h0 h1 h2 h3 h4
      obtain ⟨z, x, y, wd, ht, e0⟩ := trod_camV h0
      obtain ⟨now, e1, _, _⟩ := DataW.trod_int Tryz.underlying2 h1
      obtain ⟨s, ka, kn, kc, K, e2, hK⟩ := trod_cache h2
      obtain ⟨ra, rn, rc, E, e3, hE⟩ := trod_rqsV h3
      obtain ⟨bad, e4, _, _⟩ := DataW.trod_int Tryz.underlying2 h4
      simp at e0 e1 e2 e3 e4
      refine ⟨z, x, y, wd, ht, now, s, ka, kn, kc, K, ra, rn, rc, E, bad, ?_, hK, hE⟩
      obtain ⟨rfl, rfl, rfl, rfl, rfl⟩ := e0
      obtain ⟨rfl, rfl⟩ := e2
      subst e1 e3 e4
      have : cs = #[.int .i64 z, .int .i64 x, .int .i64 y, .int .i64 wd, .int .i64 ht, .int .i64 now, .int .i64 s, .slice ka kn kc, .slice ra rn rc, .int .i64 bad] := by
        apply Array.toList_inj.1
        rw [hcs]
      rw [this]
end Go.Proofs.YtbdhhclamgmfkaaGreat
