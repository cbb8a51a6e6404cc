/- DropRequest: the program and the model. -/
import Derived.Test.YtfcbbfhfjojoeaaWq11
import Derived.Test.YtfcbbfhfjojoeaaWql0
namespace Go.Proofs.Ytfcbbfhfjojoeaa
open Go.RowKit
set_option linter.unusedSimpArgs false
set_option linter.unusedVariables false
set_option maxRecDepth 100000

/-- The cells of a request. -/
theorem ReqAt.up {w w' : World} {p o : Nat} {e : Req} (h : ReqAt w p o e) (hb : Below w.heap.size w w') : ReqAt w' p o e := h.below hb (World.block_lt_of_cell? _ _ h.1)
theorem drop_bad {n : Nat} {E : Nat → Req} {z x y : Int} (h : reqsC n E ≠ 0) : dropC n E z x y = reqsC n E ∧ dropL n E z x y = [] := by
  unfold dropC dropL
  rw [if_neg h, if_neg h]
  exact ⟨rfl, rfl⟩
theorem drop_none {n : Nat} {E : Nat → Req} {z x y : Int} (h : reqsC n E = 0) (h2 : ¬ 0 ≤ atW n E z x y) : dropC n E z x y = 4 ∧ dropL n E z x y = [] := by
  unfold dropC dropL
  rw [if_pos h, if_pos h, if_neg h2, if_neg h2]
  exact ⟨rfl, rfl⟩
theorem drop_at {n p : Nat} {E : Nat → Req} {z x y : Int} (h : reqsC n E = 0) (h2 : atW n E z x y = (p : Int)) : dropC n E z x y = 0 ∧ dropL n E z x y = lessL p n E := by
  unfold dropC dropL
  have h3 : 0 ≤ atW n E z x y := by omega
  rw [if_pos h, if_pos h, if_pos h3, if_pos h3, h2]
  exact ⟨rfl, by simp⟩
theorem OwnW.wide {w : World} {base B : Nat} {v : Value} {n : Nat} {E : Nat → Req} (h : OwnW w base v n E) (hB : B ≤ base) : OwnW w B v n E := by
  obtain ⟨a, cap, hv, hc, h0 | ⟨b, ha, hbb, hr⟩⟩ := h
  · exact ⟨a, cap, hv, hc, .inl h0⟩
  · exact ⟨a, cap, hv, hc, .inr ⟨b, ha, by omega, hr⟩⟩
theorem OwnW.set3 {base B r : Nat} {w : World} {v a b c : Value} {n : Nat} {E : Nat → Req} (h : OwnW w B v n E) (hr : r < B) (hB : base ≤ B) : OwnW (((w.setCell ⟨r, 0, none⟩ a).setCell ⟨r, 1, none⟩ b).setCell ⟨r, 2, none⟩ c) base v n E :=
  (h.mid ((((MidB.refl r (r + 1) w).set (Nat.le_refl _) (Nat.lt_succ_self _) 0 a).set (Nat.le_refl _) (Nat.lt_succ_self _) 1 b).set (Nat.le_refl _) (Nat.lt_succ_self _) 2 c) hr).wide hB
/-- An answer without refs that were sent. -/
theorem OwnW.ans {base : Nat} {w : World} {v : Value} {n : Nat} {E : Nat → Req} (h : OwnW w base v n E) : OwA base ([] : List Req).length (rfsOf []) n E w (.slice none 0 0) v :=
  ⟨⟨none, 0, rfl, Nat.le_refl _, .inl rfl⟩, h, fun p c p' c' e => by cases e⟩
theorem enter_dr (args : Array Value) (w : World) : (callFunc 45 args).run Try.prog w = .ok (.enter 45 args) w := by
  have h1 : (Try.f45).name ≠ "runtime.NumGoroutine" := by
    have : ((Try.f45).name == "runtime.NumGoroutine") = false := by kernel_rfl
    simpa using this
  have hb : ∃ c, (Try.f45).body = some c := ⟨_, rfl⟩
  obtain ⟨c, hb⟩ := hb
  simp [callFunc, Try.func45, h1, hb]
set_option maxHeartbeats 2000000 in
theorem drop1_any (e f : Req) (r : Nat) (w : World) (h : ReqAt w r 0 f) :
    Calls Try.prog 45 #[reqV e, .pointer (some ⟨r, 0, none⟩)] w fun q w' => q = .returned (.bool (!eqR e f)) ∧ Below w.heap.size w w' := by
  have h' := h.up (w' := w.alloc (.cells #[.int .i64 e.z, .int .i64 e.x, .int .i64 e.y, .int .i64 e.du, .int .i64 e.tr] 36)) (by (repeat (first | exact Below.refl _ _ | assumption | refine Below.drew ?_ | refine bl_alloc ?_ _ | refine bl_then ?_ (by assumption) | refine Below.setCell ?_ (by first | omega | (simp; done) | (simp; omega)) _ | refine bl_store ?_ ?_ _ _)))
  obtain ⟨c0, c1, c2, c3, c4⟩ := h'
  simp only [Nat.zero_add] at c0 c1 c2 c3 c4
  have heq := fun w => neq_req e f w
  clear h
  go_enter Try.func45, Try.ntmps45
  go_wp2
  go_ret
  exact ⟨rfl, by (repeat (first | exact Below.refl _ _ | assumption | refine Below.drew ?_ | refine bl_alloc ?_ _ | refine bl_then ?_ (by assumption) | refine Below.setCell ?_ (by first | omega | (simp; done) | (simp; omega)) _ | refine bl_store ?_ ?_ _ _))⟩
theorem resDrop {T : Array Value} {Wf : World} {r : Nat} {c : Int} {v1 v2 : Value} (hT : T[4]?.getD undef = .pointer (some ⟨r, 0, none⟩)) (h0 : Wf.cell? ⟨r, 0, none⟩ = some (.int .i64 c)) (h1 : Wf.cell? ⟨r, 1, none⟩ = some v1) (h2 : Wf.cell? ⟨r, 2, none⟩ = some v2) :
    (results Try.f13 T).run Try.prog Wf = .ok (rqV c v1 v2) Wf := by
  simp [results, Try.results13, go_sem, hT, h0, h1, h2]
set_option maxHeartbeats 8000000 in
theorem impl_DropRequest_any (a : Option Addr) (n cap : Nat) (E : Nat → Req) (z x y : Int) (w : World) (hp : IsWs w a n E) (hn : n ≤ 1048576) (hcap : n ≤ cap) :
    Calls Try.prog 13 #[.slice a n cap, refV z x y] w fun e w' => ∃ v2, e = .returned (rqV (dropC n E z x y) (.slice none 0 0) v2) ∧ OwnW w' w.heap.size v2 (dropL n E z x y).length (nw (dropL n E z x y)) ∧ Below w.heap.size w w' := by
  have HP : Hid (IsWs w a n E) := hp
  have HF : Hid (∀ W, Below w.heap.size w W → Calls Try.prog 16 #[.slice a n cap] W fun e w' => e = .returned (.int .i64 (reqsC n E)) ∧ Below W.heap.size W w') := fun W h => impl_RequestsFault_any a n cap E W (hp.below h) hn hcap
  have HI : Hid (∀ W, Below w.heap.size w W → Calls Try.prog 37 #[.slice a n cap, refV z x y] W fun e w' => e = .returned (.int .i64 (atW n E z x y)) ∧ Below W.heap.size W w') := fun W h => requestOf_any a n cap E z x y W (hp.below h) hn
  clear hp
  have hmf : ∀ (fn : Fn) (first cap : Array Value) (w : World), (Instr.makeFunc fn first cap).run Try.prog w = .ok (.func fn first cap) w := fun _ _ _ _ => rfl
  go_enter Try.func13, Try.ntmps13
  go_wp2_with fail
  generalize hW : ((w.alloc _).alloc _ : World) = W
  have HB0 : Hid (Below w.heap.size w W) := by show Below _ _ _; subst hW; (repeat (first | exact Below.refl _ _ | assumption | refine Below.drew ?_ | refine bl_alloc ?_ _ | refine bl_then ?_ (by assumption) | refine Below.setCell ?_ (by first | omega | (simp; done) | (simp; omega)) _ | refine bl_store ?_ ?_ _ _))
  have HSZ : Hid (w.heap.size + 1 < W.heap.size) := by show _ < _; subst hW; simp
  have c0 : ∀ W', Below W.heap.size W W' → W'.cell? ⟨w.heap.size, 0, none⟩ = some (.int .i64 z) := fun W' h => by rw [h.cell (by subst hW; simp; omega)]; subst hW; simp [go_sem]
  have c1 : ∀ W', Below W.heap.size W W' → W'.cell? ⟨w.heap.size, 1, none⟩ = some (.int .i64 x) := fun W' h => by rw [h.cell (by subst hW; simp; omega)]; subst hW; simp [go_sem]
  have c2 : ∀ W', Below W.heap.size W W' → W'.cell? ⟨w.heap.size, 2, none⟩ = some (.int .i64 y) := fun W' h => by rw [h.cell (by subst hW; simp; omega)]; subst hW; simp [go_sem]
  have HTH : Hid (There W (w.heap.size + 1) 3) := by
    show There _ _ _
    subst hW
    have := there3q (w.alloc (.cells #[.int .i64 z, .int .i64 x, .int .i64 y] 26)) (.int .i64 0) (.slice none 0 0) (.slice none 0 0) 31
    simpa using this
  clear hW
  refine (HF.out _ HB0.out).mono ?_
  rintro e w1 ⟨rfl, hb1⟩
  by_cases hp0 : reqsC n E = 0
  · rw [hp0]
    have HP0 : Hid (reqsC n E = 0) := hp0
    clear hp0
    have m0 := c0 w1 hb1
    have m1 := c1 w1 hb1
    have m2 := c2 w1 hb1
    go_wp2_with fail
    refine (HI.out _ (bl_then HB0.out hb1)).mono ?_
    rintro e w2 ⟨rfl, hb2⟩
    have hB2 : Below W.heap.size W w2 := bl_then hb1 hb2
    clear m0 m1 m2 hb1 hb2 HI HF
    have HS2 : Hid (W.heap.size ≤ w2.heap.size) := hB2.size
    rcases atW_lt n E z x y with hat | ⟨p, hpn, hat⟩
    · rw [hat]
      obtain ⟨ha, hl⟩ := drop_none HP0.out (by rw [hat]; omega)
      have HA : Hid (dropC n E z x y = 4) := ha
      have HL : Hid (dropL n E z x y = []) := hl
      have HT2 : Hid (There w2 (w.heap.size + 1) 3) := HTH.out.below hB2
      have HB2 : Hid (Below w.heap.size w w2) := bl_then HB0.out hB2
      have t0 := HT2.out.cell 0 (by omega)
      have t1 := HT2.out.cell 1 (by omega)
      have t2 := HT2.out.cell 2 (by omega)
      have f0 := (HT2.out 0 (by omega)).2
      have f1 := (HT2.out 1 (by omega)).2
      have f2 := (HT2.out 2 (by omega)).2
      clear ha hl hat hB2
      go_wp2_with fail
      obtain ⟨q0, q1, q2⟩ := set3q (a := .int .i64 4) (b := .slice none 0 0) (c := .slice none 0 0) HT2.out
      refine bodyPost_ret (resDrop rfl q0 q1 q2) rfl ⟨_, by rw [HA.out], by rw [HL.out]; exact (RowW.no _ _).own, ?_⟩
      exact ((HB2.out.setCell (Nat.le_succ _) _).setCell (Nat.le_succ _) _).setCell (Nat.le_succ _) _
    · rw [hat]
      obtain ⟨ha, hl⟩ := drop_at HP0.out hat
      have HA : Hid (dropC n E z x y = 0) := ha
      have HL : Hid (dropL n E z x y = lessL p n E) := hl
      have HPN : Hid (p < n) := hpn
      have hi : (p : Int) < (n : Int) := by omega
      have hi0 : (0 : Int) ≤ (p : Int) := by omega
      have hneg : ¬ (p : Int) < 0 := by omega
      rcases HP.out with h0 | ⟨b, off, rfl, hbl, hpt⟩
      · omega
      obtain ⟨q0, q1, q2, q3, q4⟩ := (hpt.below (bl_then HB0.out hB2) hbl) p hpn
      have HPT : Hid (WsAt w b off n E) := hpt
      clear ha hl hat hpt
      go_wp2_with fail
      generalize hV : (World.alloc _ _ : World) = V
      have hBV : Below w2.heap.size w2 V := by subst hV; (repeat (first | exact Below.refl _ _ | assumption | refine Below.drew ?_ | refine bl_alloc ?_ _ | refine bl_then ?_ (by assumption) | refine Below.setCell ?_ (by first | omega | (simp; done) | (simp; omega)) _ | refine bl_store ?_ ?_ _ _))
      have hRV : ReqAt V w2.heap.size 0 (E p) := by subst hV; exact ⟨by simp [go_sem], by simp [go_sem], by simp [go_sem], by simp [go_sem], by simp [go_sem]⟩
      have hB3 : Below W.heap.size W V := bl_then hB2 hBV
      have HRV : Hid (ReqAt V w2.heap.size 0 (E p)) := hRV
      clear hV q0 q1 q2 q3 q4
      have HIS : Hid (IsWs V (some ⟨b, off, none⟩) n E) := IsWs.below (w := w) (.inr ⟨b, off, rfl, hbl, HPT.out⟩) (bl_then HB0.out hB3)
      have HOT : Hid (Calls Try.prog 44 #[.slice (some ⟨b, off, none⟩) n cap, .func (.func 45) #[] #[.pointer (some ⟨w2.heap.size, 0, none⟩)]] V fun e w' => ∃ va vc, e = .returned (.slice va (lessL p n E).length vc) ∧ OwnW w' V.heap.size (.slice va (lessL p n E).length vc) (lessL p n E).length (nw (lessL p n E)) ∧ Below V.heap.size V w') := by
        have hk := keptL_congr (G := fun j => !eqR (E j) (E p)) (G' := fun j => decide (j ≠ p)) (E := E) n (fun j hj => gone_is HP0.out HPN.out hj)
        have h := onlyThose_any (some ⟨b, off, none⟩) n cap 45 #[.pointer (some ⟨w2.heap.size, 0, none⟩)] (fun j => !eqR (E j) (E p)) E V HIS.out hn enter_dr (fun i W' hi hb => drop1_any (E i) (E p) w2.heap.size W' (HRV.out.up hb))
        rw [hk] at h
        exact h
      refine Calls.mono HOT.out ?_
      rintro e w4 ⟨va, vc, rfl, hO4, hb4⟩
      have HO4 : Hid (OwnW w4 V.heap.size (.slice va (lessL p n E).length vc) (lessL p n E).length (nw (lessL p n E))) := hO4
      have HT4 : Hid (There w4 (w.heap.size + 1) 3) := (HTH.out.below hB3).below hb4
      have HB4 : Hid (Below w.heap.size w w4) := bl_then HB0.out (bl_then hB3 hb4)
      have HSV : Hid (w.heap.size + 1 < V.heap.size) := by have := hB3.size; have := HSZ.out; show _ < _; omega
      have t0 := HT4.out.cell 0 (by omega)
      have t1 := HT4.out.cell 1 (by omega)
      have t2 := HT4.out.cell 2 (by omega)
      have f0 := (HT4.out 0 (by omega)).2
      have f1 := (HT4.out 1 (by omega)).2
      have f2 := (HT4.out 2 (by omega)).2
      clear hO4 hb4 hB3 hBV hRV HOT hB2
      generalize hLL : (lessL p n E).length = LL at *
      go_wp2_with fail
      obtain ⟨q0, q1, q2⟩ := set3q (a := .int .i64 0) (b := .slice none 0 0) (c := .slice va LL vc) HT4.out
      refine bodyPost_ret (resDrop rfl q0 q1 q2) rfl ⟨_, by rw [HA.out], by rw [HL.out, hLL]; exact HO4.out.set3 HSV.out (by have := HSV.out; omega), ?_⟩
      exact ((HB4.out.setCell (Nat.le_succ _) _).setCell (Nat.le_succ _) _).setCell (Nat.le_succ _) _
  · have hp0' : (reqsC n E == 0) = false := by simpa using hp0
    obtain ⟨ha, hl⟩ := drop_bad (z := z) (x := x) (y := y) hp0
    have HA : Hid (dropC n E z x y = reqsC n E) := ha
    have HL : Hid (dropL n E z x y = []) := hl
    have HT2 : Hid (There w1 (w.heap.size + 1) 3) := HTH.out.below hb1
    have HB2 : Hid (Below w.heap.size w w1) := bl_then HB0.out hb1
    have t0 := HT2.out.cell 0 (by omega)
    have t1 := HT2.out.cell 1 (by omega)
    have t2 := HT2.out.cell 2 (by omega)
    have f0 := (HT2.out 0 (by omega)).2
    have f1 := (HT2.out 1 (by omega)).2
    have f2 := (HT2.out 2 (by omega)).2
    clear ha hl hp0 hb1
    generalize reqsC n E = k1 at *
    go_wp2_with fail
    obtain ⟨q0, q1, q2⟩ := set3q (a := .int .i64 k1) (b := .slice none 0 0) (c := .slice none 0 0) HT2.out
    refine bodyPost_ret (resDrop rfl q0 q1 q2) rfl ⟨_, by rw [HA.out], by rw [HL.out]; exact (RowW.no _ _).own, ?_⟩
    exact ((HB2.out.setCell (Nat.le_succ _) _).setCell (Nat.le_succ _) _).setCell (Nat.le_succ _) _
set_option maxHeartbeats 4000000 in
theorem l12Less_any (b off n cap p : Nat) (E : Nat → Req) (w : World) (hp : WsAt w b off n E) (hbl : b < w.heap.size) (hpn : p < n) (hcap : n ≤ cap) (hn : n ≤ 1048576) :
    Calls Try.prog 55 #[.slice (some ⟨b, off, none⟩) n cap, .int .i64 (p : Int)] w fun e w' => ∃ v, e = .returned v ∧ RowW w.heap.size w' v (lessL p n E) ∧ Below w.heap.size w w' := by
  obtain ⟨i0, hi, hz0, hz1, hz2⟩ := info_parts info_req
  obtain ⟨k, rfl⟩ : ∃ k, n = p + 1 + k := ⟨n - (p + 1), by omega⟩
  have HLL : Hid (lessL p (p + 1 + k) E = listW p E ++ listW k (fun i => E (p + 1 + i))) := lessL_eq p E k
  have HL1 : Hid ((listW p E).length = p) := listW_len p E
  have HL2 : Hid ((listW k (fun i => E (p + 1 + i))).length = k) := listW_len _ _
  have H1 : Hid (∀ W, Below w.heap.size w W → ∀ q u, (cellsW (listW p E))[q]? = some u → W.cell? ((⟨b, off, none⟩ : Addr).add q) = some u) := fun W hb q u hq => by
    have h1 := ws_cells (WsAt.below (fun i hi => hp i (by omega) : WsAt w b off p E) hb hbl) q u hq
    by_cases hq0 : q = 0
    · subst hq0; simpa [Addr.add] using h1
    · simpa [Addr.add, hq0] using h1
  have H2 : Hid (∀ W, Below w.heap.size w W → ∀ q u, (cellsW (listW k (fun i => E (p + 1 + i))))[q]? = some u → W.cell? ((⟨b, off + (p + 1) * 5, none⟩ : Addr).add q) = some u) := fun W hb q u hq => by
    have h0 : WsAt w b (off + (p + 1) * 5) k (fun i => E (p + 1 + i)) := fun i hi => by
      have h := hp (p + 1 + i) (by omega)
      rw [show off + (p + 1 + i) * 5 = off + (p + 1) * 5 + i * 5 by omega] at h
      exact h
    have h1 := ws_cells (h0.below hb hbl) q u hq
    by_cases hq0 : q = 0
    · subst hq0; simpa [Addr.add] using h1
    · simpa [Addr.add, hq0] using h1
  clear hp
  have e1 : (p : Int) ≤ ((p + 1 + k : Nat) : Int) := by omega
  have e2 : (p : Int) ≤ (cap : Int) := by omega
  have e3 : (0 : Int) ≤ (p : Int) := by omega
  have e4 : (p : Int) + 1 ≤ ((p + 1 + k : Nat) : Int) := by omega
  have e5 : (p : Int) + 1 ≤ (cap : Int) := by omega
  have e6 : (0 : Int) ≤ (p : Int) + 1 := by omega
  go_enter Try.func55, Try.ntmps55
  go_wp2_with (first
    | (at_builtin; go_must (refine wpList_append_own _ rfl _ _ 24 rfl w.heap.size 36 i0 (.agg #[.int .i64 0, .int .i64 0, .int .i64 0, .int .i64 0, .int .i64 0]) 5 40 Try.underlying24 hi hz0 hz1 hz2 rfl (by decide) (.slice (some ⟨w.heap.size, 0, none⟩) 0 0) 0 [] rfl (World.ownsRow_lit (base := w.heap.size) w #[] 0 (Nat.le_refl _) (Nat.zero_le _) rfl) ⟨b, off, none⟩ p cap (cellsW (listW p E)) rfl ?c0 ?c1 ?c2 ?c3 ?c4 ?c5 ?_)))
  case c0 => rw [cellsW_len, HL1.out]
  case c1 => exact H1.out _ (by (repeat (first | exact Below.refl _ _ | assumption | refine Below.drew ?_ | refine bl_alloc ?_ _ | refine bl_then ?_ (by assumption) | refine Below.setCell ?_ (by first | omega | (simp; done) | (simp; omega)) _ | refine bl_store ?_ ?_ _ _)))
  case c2 => exact cellsW_cell _
  case c3 => unfold maxLen; omega
  case c4 => omega
  case c5 => first | omega | (simp; done) | (simp; omega)
  intro v' w2 hown' hgrow hnil
  have HR : Hid (w2.ownsRow w.heap.size 36 5 v' p (cellsW (listW p E))) := by
    show World.ownsRow _ _ _ _ _ _ _
    simpa using hown'
  have hB2 : Below w.heap.size w w2 := by
    have h1 : Below w.heap.size w (w.alloc (.cells #[] 36)) := by (repeat (first | exact Below.refl _ _ | assumption | refine Below.drew ?_ | refine bl_alloc ?_ _ | refine bl_then ?_ (by assumption) | refine Below.setCell ?_ (by first | omega | (simp; done) | (simp; omega)) _ | refine bl_store ?_ ?_ _ _))
    exact h1.trans ⟨hgrow.os, hgrow.tape, hgrow.output, hgrow.size, fun k hk => hgrow.block k (by simp; omega) (by simp [Value.ownBlock]; omega)⟩
  have hbv : ∀ s, v'.ownBlock = some s → w.heap.size ≤ s := fun s hs => by
    have hrw : RowW w.heap.size w2 v' (listW p E) := by
      show World.ownsRow _ _ _ _ _ _ _
      rw [HL1.out]
      exact HR.out
    exact hrw.block s hs
  have HBV : Hid (∀ s, v'.ownBlock = some s → w.heap.size ≤ s) := hbv
  clear hown' hgrow hnil hbv
  by_cases hcp : cap = p + 1
  · obtain rfl : k = 0 := by omega
    subst hcp
    go_wp2_with (first
      | (at_builtin; go_must (refine wpList_append_own _ rfl _ _ 24 rfl w.heap.size 36 i0 (.agg #[.int .i64 0, .int .i64 0, .int .i64 0, .int .i64 0, .int .i64 0]) 5 40 Try.underlying24 hi hz0 hz1 hz2 rfl (by decide) v' p (cellsW (listW p E)) rfl HR.out ⟨b, off, none⟩ 0 0 (cellsW (listW 0 (fun i => E (p + 1 + i)))) rfl ?d0a ?d1a ?d2a ?d3a ?d4a ?d5a ?_)))
    case d0a => rw [cellsW_len, HL2.out]
    case d1a => exact fun q u hq => by simp [listW, cellsW] at hq
    case d2a => exact cellsW_cell _
    case d3a => unfold maxLen; omega
    case d4a => omega
    case d5a => exact hB2.size
    intro v3 w3 hown3 hgrow3 hnil3
    have HR3 : Hid (RowW w.heap.size w3 v3 (lessL p (p + 1 + 0) E)) := by
      show World.ownsRow _ _ _ _ _ _ _
      rw [HLL.out, cellsW_app, List.length_append, HL1.out, HL2.out]
      exact hown3
    have HB3 : Hid (Below w.heap.size w w3) := hB2.trans (below_rowR hgrow3 HBV.out hB2.size)
    clear hown3 hgrow3 hnil3
    go_wp2
    go_ret
    exact ⟨_, rfl, HR3.out, HB3.out⟩
  · have hcp' : ¬ cap - (p + 1) = 0 := by omega
    go_wp2_with (first
      | (at_builtin; go_must (refine wpList_append_own _ rfl _ _ 24 rfl w.heap.size 36 i0 (.agg #[.int .i64 0, .int .i64 0, .int .i64 0, .int .i64 0, .int .i64 0]) 5 40 Try.underlying24 hi hz0 hz1 hz2 rfl (by decide) v' p (cellsW (listW p E)) rfl HR.out ⟨b, off + (p + 1) * 5, none⟩ k (cap - (p + 1)) (cellsW (listW k (fun i => E (p + 1 + i)))) ?eqb ?d0b ?d1b ?d2b ?d3b ?d4b ?d5b ?_)))
    case eqb =>
      have e7 : p + 1 + k - (p + 1) = k := by omega
      simp [Act.eval, e7]
    case d0b => rw [cellsW_len, HL2.out]
    case d1b => exact H2.out _ hB2
    case d2b => exact cellsW_cell _
    case d3b => unfold maxLen; omega
    case d4b => omega
    case d5b => exact hB2.size
    intro v3 w3 hown3 hgrow3 hnil3
    have HR3 : Hid (RowW w.heap.size w3 v3 (lessL p (p + 1 + k) E)) := by
      show World.ownsRow _ _ _ _ _ _ _
      rw [HLL.out, cellsW_app, List.length_append, HL1.out, HL2.out]
      exact hown3
    have HB3 : Hid (Below w.heap.size w w3) := hB2.trans (below_rowR hgrow3 HBV.out hB2.size)
    clear hown3 hgrow3 hnil3
    go_wp2
    go_ret
    exact ⟨_, rfl, HR3.out, HB3.out⟩
theorem resDropS {T : Array Value} {Wf : World} {r : Nat} {c : Int} {v1 v2 : Value} (hT : T[4]?.getD undef = .pointer (some ⟨r, 0, none⟩)) (h0 : Wf.cell? ⟨r, 0, none⟩ = some (.int .i64 c)) (h1 : Wf.cell? ⟨r, 1, none⟩ = some v1) (h2 : Wf.cell? ⟨r, 2, none⟩ = some v2) :
    (results Try.f26 T).run Try.prog Wf = .ok (rqV c v1 v2) Wf := by
  simp [results, Try.results26, go_sem, hT, h0, h1, h2]
set_option maxHeartbeats 8000000 in
theorem spec_DropRequest_any (a : Option Addr) (n cap : Nat) (E : Nat → Req) (z x y : Int) (w : World) (hp : IsWs w a n E) (hn : n ≤ 1048576) (hcap : n ≤ cap) :
    Calls Try.prog 26 #[.slice a n cap, refV z x y] w fun e w' => ∃ v2, e = .returned (rqV (dropC n E z x y) (.slice none 0 0) v2) ∧ OwnW w' w.heap.size v2 (dropL n E z x y).length (nw (dropL n E z x y)) ∧ Below w.heap.size w w' := by
  have HP : Hid (IsWs w a n E) := hp
  have HF : Hid (∀ W, Below w.heap.size w W → Calls Try.prog 48 #[.slice a n cap] W fun e w' => e = .returned (.int .i64 (reqsC n E)) ∧ Below W.heap.size W w') := fun W h => l12Fault_any a n cap E W (hp.below h) hn
  have HI : Hid (∀ W, Below w.heap.size w W → Calls Try.prog 42 #[.slice a n cap, refV z x y] W fun e w' => e = .returned (.int .i64 (atW n E z x y)) ∧ Below W.heap.size W w') := fun W h => l12At_any a n cap E z x y W (hp.below h) hn
  clear hp
  go_enter Try.func26, Try.ntmps26
  go_wp2_with fail
  generalize hW : ((w.alloc _).alloc _ : World) = W
  have HB0 : Hid (Below w.heap.size w W) := by show Below _ _ _; subst hW; (repeat (first | exact Below.refl _ _ | assumption | refine Below.drew ?_ | refine bl_alloc ?_ _ | refine bl_then ?_ (by assumption) | refine Below.setCell ?_ (by first | omega | (simp; done) | (simp; omega)) _ | refine bl_store ?_ ?_ _ _))
  have HSZ : Hid (w.heap.size + 1 < W.heap.size) := by show _ < _; subst hW; simp
  have c0 : ∀ W', Below W.heap.size W W' → W'.cell? ⟨w.heap.size, 0, none⟩ = some (.int .i64 z) := fun W' h => by rw [h.cell (by subst hW; simp; omega)]; subst hW; simp [go_sem]
  have c1 : ∀ W', Below W.heap.size W W' → W'.cell? ⟨w.heap.size, 1, none⟩ = some (.int .i64 x) := fun W' h => by rw [h.cell (by subst hW; simp; omega)]; subst hW; simp [go_sem]
  have c2 : ∀ W', Below W.heap.size W W' → W'.cell? ⟨w.heap.size, 2, none⟩ = some (.int .i64 y) := fun W' h => by rw [h.cell (by subst hW; simp; omega)]; subst hW; simp [go_sem]
  have HTH : Hid (There W (w.heap.size + 1) 3) := by
    show There _ _ _
    subst hW
    have := there3q (w.alloc (.cells #[.int .i64 z, .int .i64 x, .int .i64 y] 26)) (.int .i64 0) (.slice none 0 0) (.slice none 0 0) 31
    simpa using this
  clear hW
  refine (HF.out _ HB0.out).mono ?_
  rintro e w1 ⟨rfl, hb1⟩
  by_cases hp0 : reqsC n E = 0
  · rw [hp0]
    have HP0 : Hid (reqsC n E = 0) := hp0
    clear hp0
    have m0 := c0 w1 hb1
    have m1 := c1 w1 hb1
    have m2 := c2 w1 hb1
    go_wp2_with fail
    refine (HI.out _ (bl_then HB0.out hb1)).mono ?_
    rintro e w2 ⟨rfl, hb2⟩
    have hB2 : Below W.heap.size W w2 := bl_then hb1 hb2
    clear m0 m1 m2 hb1 hb2 HI HF
    rcases atW_lt n E z x y with hat | ⟨p, hpn, hat⟩
    · rw [hat]
      obtain ⟨ha, hl⟩ := drop_none HP0.out (by rw [hat]; omega)
      have HA : Hid (dropC n E z x y = 4) := ha
      have HL : Hid (dropL n E z x y = []) := hl
      clear ha hl hat
      go_wp2_with fail
      refine (l12Bad_any 4 _).mono ?_
      rintro e w4 ⟨rfl, hb4⟩
      have HT2 : Hid (There w4 (w.heap.size + 1) 3) := (HTH.out.below hB2).below hb4
      have HB2 : Hid (Below w.heap.size w w4) := bl_then HB0.out (bl_then hB2 hb4)
      have t0 := HT2.out.cell 0 (by omega)
      have t1 := HT2.out.cell 1 (by omega)
      have t2 := HT2.out.cell 2 (by omega)
      have f0 := (HT2.out 0 (by omega)).2
      have f1 := (HT2.out 1 (by omega)).2
      have f2 := (HT2.out 2 (by omega)).2
      clear hB2 hb4
      go_wp2_with fail
      obtain ⟨q0, q1, q2⟩ := set3q (a := .int .i64 4) (b := .slice none 0 0) (c := .slice none 0 0) HT2.out
      refine bodyPost_ret (resDropS rfl q0 q1 q2) rfl ⟨_, by rw [HA.out], by rw [HL.out]; exact (RowW.no _ _).own, ?_⟩
      exact ((HB2.out.setCell (Nat.le_succ _) _).setCell (Nat.le_succ _) _).setCell (Nat.le_succ _) _
    · rw [hat]
      obtain ⟨ha, hl⟩ := drop_at HP0.out hat
      have HA : Hid (dropC n E z x y = 0) := ha
      have HL : Hid (dropL n E z x y = lessL p n E) := hl
      have hneg : ¬ (p : Int) < 0 := by omega
      rcases HP.out with h0 | ⟨b, off, rfl, hbl, hpt⟩
      · omega
      have HLS : Hid (Calls Try.prog 55 #[.slice (some ⟨b, off, none⟩) n cap, .int .i64 (p : Int)] w2 fun e w' => ∃ v, e = .returned v ∧ RowW w2.heap.size w' v (lessL p n E) ∧ Below w2.heap.size w2 w') := l12Less_any b off n cap p E w2 (hpt.below (bl_then HB0.out hB2) hbl) (Nat.lt_of_lt_of_le hbl (bl_then HB0.out hB2).size) hpn hcap hn
      clear ha hl hat hpt
      go_wp2_with fail
      refine Calls.mono HLS.out ?_
      rintro e w4 ⟨v, rfl, hO4, hb4⟩
      obtain ⟨va, vc, hv⟩ := hO4.slice
      subst hv
      have HO4 : Hid (OwnW w4 w2.heap.size (.slice va (lessL p n E).length vc) (lessL p n E).length (nw (lessL p n E))) := hO4.own
      have HT4 : Hid (There w4 (w.heap.size + 1) 3) := (HTH.out.below hB2).below hb4
      have HB4 : Hid (Below w.heap.size w w4) := bl_then HB0.out (bl_then hB2 hb4)
      have HSV : Hid (w.heap.size + 1 < w2.heap.size) := by have := hB2.size; have := HSZ.out; show _ < _; omega
      have t0 := HT4.out.cell 0 (by omega)
      have t1 := HT4.out.cell 1 (by omega)
      have t2 := HT4.out.cell 2 (by omega)
      have f0 := (HT4.out 0 (by omega)).2
      have f1 := (HT4.out 1 (by omega)).2
      have f2 := (HT4.out 2 (by omega)).2
      clear hO4 hb4 HLS hB2
      generalize hLL : (lessL p n E).length = LL at *
      go_wp2_with fail
      obtain ⟨q0, q1, q2⟩ := set3q (a := .int .i64 0) (b := .slice none 0 0) (c := .slice va LL vc) HT4.out
      refine bodyPost_ret (resDropS rfl q0 q1 q2) rfl ⟨_, by rw [HA.out], by rw [HL.out, hLL]; exact HO4.out.set3 HSV.out (by have := HSV.out; omega), ?_⟩
      exact ((HB4.out.setCell (Nat.le_succ _) _).setCell (Nat.le_succ _) _).setCell (Nat.le_succ _) _
  · have hp0' : (reqsC n E == 0) = false := by simpa using hp0
    obtain ⟨ha, hl⟩ := drop_bad (z := z) (x := x) (y := y) hp0
    have HA : Hid (dropC n E z x y = reqsC n E) := ha
    have HL : Hid (dropL n E z x y = []) := hl
    clear ha hl hp0
    generalize reqsC n E = k1 at *
    go_wp2_with fail
    refine (l12Bad_any k1 _).mono ?_
    rintro e w4 ⟨rfl, hb4⟩
    have HT2 : Hid (There w4 (w.heap.size + 1) 3) := (HTH.out.below hb1).below hb4
    have HB2 : Hid (Below w.heap.size w w4) := bl_then HB0.out (bl_then hb1 hb4)
    have t0 := HT2.out.cell 0 (by omega)
    have t1 := HT2.out.cell 1 (by omega)
    have t2 := HT2.out.cell 2 (by omega)
    have f0 := (HT2.out 0 (by omega)).2
    have f1 := (HT2.out 1 (by omega)).2
    have f2 := (HT2.out 2 (by omega)).2
    clear hb1 hb4
    go_wp2_with fail
    obtain ⟨q0, q1, q2⟩ := set3q (a := .int .i64 k1) (b := .slice none 0 0) (c := .slice none 0 0) HT2.out
    refine bodyPost_ret (resDropS rfl q0 q1 q2) rfl ⟨_, by rw [HA.out], by rw [HL.out]; exact (RowW.no _ _).own, ?_⟩
    exact ((HB2.out.setCell (Nat.le_succ _) _).setCell (Nat.le_succ _) _).setCell (Nat.le_succ _) _
end Go.Proofs.Ytfcbbfhfjojoeaa
