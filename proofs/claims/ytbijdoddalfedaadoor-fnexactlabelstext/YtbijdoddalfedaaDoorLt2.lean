/- Labels in lines: the program. -/
import Derived.Test.YtbijdoddalfedaaDoorLt1
import Derived.Test.YtbijdoddalfedaaDoorTx4
import Derived.Test.YtbijdoddalfedaaDoorApo
import Derived.Lib.Join
namespace Go.Proofs.YtbijdoddalfedaaDoor
open Go.RowKit
set_option linter.unusedSimpArgs false
set_option linter.unusedVariables false
set_option maxRecDepth 100000

/-- The numbers of a label, as they are told. -/
def numL (e : Plc) (k : Nat) : Int := [e.id, e.a, e.b, e.c, e.d].getD k 0
def ltW : ByteArray := ⟨#[108, 97, 98, 101, 108]⟩
/-- The words of a line, the first k + 1 of them. -/
def lnW (e : Plc) (k : Nat) : List ByteArray := ltW :: (List.range k).map (fun j => digB (numL e j))
theorem lnW_add (e : Plc) (k : Nat) : lnW e (k + 1) = lnW e k ++ [digB (numL e k)] := by
  unfold lnW
  rw [List.range_succ, List.map_append, List.cons_append]
  rfl
theorem lnW_len (e : Plc) (k : Nat) : (lnW e k).length = k + 1 := by simp [lnW]
/-- A line. -/
def lnJ (e : Plc) : ByteArray := ltW ++ ltS ++ digB e.id ++ ltS ++ digB e.a ++ ltS ++ digB e.b ++ ltS ++ digB e.c ++ ltS ++ digB e.d
theorem join_lnW (e : Plc) : Go.Lib.join ((lnW e 5).map (·.data.toList)) [32] = (lnJ e).data.toList := by
  have h : lnW e 5 = [ltW, digB e.id, digB e.a, digB e.b, digB e.c, digB e.d] := rfl
  rw [h]
  simp [Go.Lib.join_cons, Go.Lib.joinTail, lnJ, ltS]
theorem lnT_eq (T : ByteArray) (e : Plc) : lnT T e = T ++ (lnJ e ++ ltN) := by
  apply ByteArray.ext
  simp [lnT, lnJ, ltL, ltW, ltS, ltN]
theorem lnJ_size {e : Plc} (h : okL e = true) : (lnJ e).size ≤ 115 := by
  have := (lnT_size (T := ⟨#[]⟩) h).2
  rw [lnT_eq] at this
  have e3 : ltN.size = 1 := rfl
  have e4 : (⟨#[]⟩ : ByteArray).size = 0 := rfl
  simp only [ByteArray.size_append, e3, e4] at this
  omega
theorem numL_bd {e : Plc} (h : okL e = true) : ∀ k, k < 5 → 0 ≤ numL e k ∧ numL e k ≤ 1048576 := fun k hk => by
  obtain ⟨h0, h1, h2, h3, h4⟩ := okL_bd h
  match k, hk with
  | 0, _ => show 0 ≤ e.id ∧ e.id ≤ 1048576; omega
  | 1, _ => show 0 ≤ e.a ∧ e.a ≤ 1048576; omega
  | 2, _ => show 0 ≤ e.b ∧ e.b ≤ 1048576; omega
  | 3, _ => show 0 ≤ e.c ∧ e.c ≤ 1048576; omega
  | 4, _ => show 0 ≤ e.d ∧ e.d ≤ 1048576; omega
def numM (e : Plc) (k : Nat) : Int := [e.a, e.b, e.c, e.d].getD k 0
theorem okL_no {e : Plc} {k : Nat} (hk : k < 4) (h : inB (numM e k) 0 9999 = false) : okL e = false := by
  unfold okL
  match k, hk, h with
  | 0, _, h => have h' : inB e.a 0 9999 = false := h; simp [h']
  | 1, _, h => have h' : inB e.b 0 9999 = false := h; simp [h']
  | 2, _, h => have h' : inB e.c 0 9999 = false := h; simp [h']
  | 3, _, h => have h' : inB e.d 0 9999 = false := h; simp [h']
theorem okL_yes {e : Plc} (h0 : inB e.id 1 999 = true) (h : ∀ k, k < 4 → inB (numM e k) 0 9999 = true) : okL e = true := by
  have a0 : inB e.a 0 9999 = true := h 0 (by omega)
  have a1 : inB e.b 0 9999 = true := h 1 (by omega)
  have a2 : inB e.c 0 9999 = true := h 2 (by omega)
  have a3 : inB e.d 0 9999 = true := h 3 (by omega)
  unfold okL
  simp [h0, a0, a1, a2, a3]
set_option maxHeartbeats 4000000 in
theorem placedFault_any (e : Plc) (w : World) : Calls Tryd.prog 13 #[plcV e] w fun r w' => r = .returned (.int .i64 (if okL e = true then 0 else 3)) ∧ Below w.heap.size w w' := by
  obtain ⟨C, hC⟩ : ∃ C : Int, (if okL e = true then 0 else 3) = C := ⟨_, rfl⟩
  have HC : Hid ((if okL e = true then (0 : Int) else 3) = C) := hC
  rw [hC]
  clear hC
  have HI : Hid (∀ (v lo hi : Int) (r : Bool) (W : World), inB v lo hi = r → Calls Tryd.prog 17 #[.int .i64 v, .int .i64 lo, .int .i64 hi] W fun e w' => e = .returned (.bool r) ∧ Below W.heap.size W w') := fun v lo hi r W hr => by
    rw [← hr]
    exact (isWithin_any v lo hi W).mono fun e w' ⟨h1, h2⟩ => ⟨h1, by rw [h2]; exact Below.refl _ _⟩
  have HN : Hid (okL e = false → C = 3) := fun h => by rw [← HC.out, h]; rfl
  have HY : Hid (okL e = true → C = 0) := fun h => by rw [← HC.out, h]; rfl
  have HNo : Hid (∀ k, k < 4 → inB (numM e k) 0 9999 = false → C = 3) := fun k hk h => HN.out (okL_no hk h)
  have HYe : Hid (inB e.id 1 999 = true → (∀ k, k < 4 → inB (numM e k) 0 9999 = true) → C = 0) := fun h0 h => HY.out (okL_yes h0 h)
  have HI0 : Hid (inB e.id 1 999 = false → C = 3) := fun h => HN.out (by unfold okL; simp [h])
  have HA : Hid (∀ (B W W' : World), W = B.alloc (.cells #[.int .i64 e.a, .int .i64 e.b, .int .i64 e.c, .int .i64 e.d] 2) → Below W.heap.size W W' → ∀ k, k < 4 → W'.cell? ⟨B.heap.size, k, none⟩ = some (.int .i64 (numM e k))) := fun B W W' hW h k hk => by
    rw [h.cell (by subst hW; simp)]
    subst hW
    match k, hk with
    | 0, _ => simp [go_sem, numM]
    | 1, _ => simp [go_sem, numM]
    | 2, _ => simp [go_sem, numM]
    | 3, _ => simp [go_sem, numM]
  clear HC HN HY
  generalize numM e = M at *
  obtain ⟨id, xa, xb, xc, xd⟩ := e
  dsimp only at *
  cases f0 : inB id 1 999
  case false =>
    have HE : Hid (C = 3) := HI0.out f0
    clear HNo HYe HI0 HA
    go_enter Tryd.func13, Tryd.ntmps13
    go_wp2_with (go_at_call 17; refine (HI.out _ _ _ _ _ f0).mono ?_; rintro e w1 ⟨rfl, hb1⟩)
    go_ret
    exact ⟨ret_int HE.out.symm, by (repeat (first | exact Below.refl _ _ | assumption | refine Below.drew ?_ | refine bl_alloc ?_ _ | refine bl_then ?_ (by assumption) | refine Below.setCell ?_ (by first | omega | (simp; done) | (simp; omega)) _ | refine bl_store ?_ ?_ _ _))⟩
  have HYes := (show Hid _ from HYe.out f0)
  clear HI0 HYe
  go_enter Tryd.func13, Tryd.ntmps13
  go_wp2_with fail
  generalize hV : (w.alloc _ : World) = V
  have HBV : Hid (Below w.heap.size w V) := by show Below _ _ _; subst hV; (repeat (first | exact Below.refl _ _ | assumption | refine Below.drew ?_ | refine bl_alloc ?_ _ | refine bl_then ?_ (by assumption) | refine Below.setCell ?_ (by first | omega | (simp; done) | (simp; omega)) _ | refine bl_store ?_ ?_ _ _))
  have HP : Hid (∀ W', Below V.heap.size V W' → W'.cell? ⟨w.heap.size, 1, none⟩ = some (.int .i64 xa) ∧ W'.cell? ⟨w.heap.size, 2, none⟩ = some (.int .i64 xb) ∧ W'.cell? ⟨w.heap.size, 3, none⟩ = some (.int .i64 xc) ∧ W'.cell? ⟨w.heap.size, 4, none⟩ = some (.int .i64 xd)) := fun W' h => by
    rw [h.cell (by subst hV; simp), h.cell (by subst hV; simp), h.cell (by subst hV; simp), h.cell (by subst hV; simp)]
    subst hV
    simp [go_sem]
  clear hV
  refine Calls.mono (HI.out _ _ _ _ _ f0) ?_
  rintro e w1 ⟨rfl, hb1⟩
  have HB1 : Hid (Below w.heap.size w w1) := bl_then HBV.out hb1
  obtain ⟨c1, c2, c3, c4⟩ := HP.out w1 hb1
  clear hb1 HP HBV
  go_wp2_with fail
  generalize hA : (w1.alloc _ : World) = W
  have HAW : Hid (∀ W', Below W.heap.size W W' → ∀ k, k < 4 → W'.cell? ⟨w1.heap.size, k, none⟩ = some (.int .i64 (M k))) := fun W' h => HA.out w1 W W' hA.symm h
  have HBW : Hid (Below w.heap.size w W) := bl_then HB1.out (by subst hA; (repeat (first | exact Below.refl _ _ | assumption | refine Below.drew ?_ | refine bl_alloc ?_ _ | refine bl_then ?_ (by assumption) | refine Below.setCell ?_ (by first | omega | (simp; done) | (simp; omega)) _ | refine bl_store ?_ ?_ _ _)))
  clear hA HA c1 c2 c3 c4
  generalize w1.heap.size = g at *
  clear HB1
  go_loopw [19] (fun i wr => ∃ k : Nat, i = .int .i64 (k : Int) ∧ k ≤ 4 ∧ (∀ j, j < k → inB (M j) 0 9999 = true) ∧ Below W.heap.size W wr) (fun i _ => 4 - (intOf i).toNat)
  case atStart => exact ⟨0, rfl, Nat.zero_le _, fun j hj => absurd hj (Nat.not_lt_zero _), Below.refl _ _⟩
  case round =>
    obtain ⟨k, rfl, hk4, hz, hB⟩ := hrel
    have HB : Hid (Below W.heap.size W wr) := hB
    have HZ : Hid (∀ j, j < k → inB (M j) 0 9999 = true) := hz
    clear hB hz
    by_cases hk : k < 4
    · have hki : (k : Int) < 4 := by omega
      have hk0 : (0 : Int) ≤ (k : Int) := by omega
      have c := HAW.out wr HB.out k hk
      cases f1 : inB (M k) 0 9999
      case false =>
        have HE : Hid (C = 3) := HNo.out k hk f1
        have HIk := (show Hid _ from fun W => HI.out _ _ _ _ W f1)
        go_wp2_with fail
        refine Calls.mono (HIk.out _) ?_
        rintro e w2 ⟨rfl, hb2⟩
        have HX : Hid (Below w.heap.size w w2) := bl_then HBW.out (bl_then HB.out hb2)
        clear hb2
        go_wp2
        go_ret
        exact ⟨ret_int HE.out.symm, HX.out⟩
      case true =>
        have HZ2 : Hid (∀ j, j < k + 1 → inB (M j) 0 9999 = true) := fun j hj => by
          by_cases e : j = k
          · rw [e]; exact f1
          · exact HZ.out j (by omega)
        have HIk := (show Hid _ from fun W => HI.out _ _ _ _ W f1)
        go_wp2_with fail
        refine Calls.mono (HIk.out _) ?_
        rintro e w2 ⟨rfl, hb2⟩
        have HX : Hid (Below W.heap.size W w2) := bl_then HB.out hb2
        clear hb2
        go_wp2_with fail
        exact ⟨⟨k + 1, by simp, by omega, HZ2.out, HX.out⟩, by simp [intOf]; omega⟩
    · obtain rfl : k = 4 := by omega
      have HE : Hid (C = 0) := HYes.out HZ.out
      go_wp2
      go_ret
      exact ⟨ret_int HE.out.symm, bl_then HBW.out HB.out⟩
def RowB (base : Nat) (w : World) (v : Value) (l : List ByteArray) : Prop := w.ownsRow base 9 1 v l.length (l.map (.string ·))
theorem rowB_form {v : Value} {base : Nat} {w : World} {l : List ByteArray} (h : RowB base w v l) (hl : 0 < l.length) : ∃ g c, v = .slice (some ⟨g, 0, none⟩) l.length c ∧ l.length ≤ c := by
  obtain ⟨_, h2 | ⟨g, cp, cur, hv, _, _, hkc, _⟩⟩ := h
  · omega
  · exact ⟨g, cp, hv, hkc⟩
theorem rowB_but {base : Nat} {w w' : World} {v : Value} {l : List ByteArray} (h : RowB base w v l) (hb : Below w.heap.size w w') : RowB base w' v l := by
  obtain ⟨h1, h2 | ⟨g, cp, cur, hv, hg, hh, hr⟩⟩ := h
  · exact ⟨h1, .inl h2⟩
  · refine ⟨h1, .inr ⟨g, cp, cur, hv, hg, ?_, hr⟩⟩
    rw [hb.block g ?_]
    · exact hh
    · rcases Nat.lt_or_ge g w.heap.size with h | h
      · exact h
      · rw [Array.getElem?_eq_none h] at hh; cases hh
theorem info_strL : ∃ i, Tryd.prog.info? 9 = some i ∧ i.zero = some (.string ⟨#[]⟩) ∧ i.size = 1 ∧ i.bytes = 16 := by
  refine ⟨_, rfl, ?_, ?_, ?_⟩ <;> kernel_rfl
theorem add_plainB (g j : Nat) : (⟨g, 0, none⟩ : Addr).add j = ⟨g, j, none⟩ := by
  unfold Addr.add
  by_cases h : j = 0
  · subst h; rfl
  · simp [h]
set_option maxHeartbeats 8000000 in
theorem placedLine_any (e : Plc) (w : World) (hok : okL e = true) (ht : TabB w) : Calls Tryd.prog 14 #[plcV e] w fun r w' => r = .returned (.string (lnJ e ++ ltN)) ∧ Below w.heap.size w w' := by
  obtain ⟨i0, hi, hz0, hz1, hz2⟩ := info_strL
  have HTb : Hid (TabB w) := ht
  have HBd : Hid (∀ k, k < 5 → 0 ≤ numL e k ∧ numL e k ≤ 1048576) := numL_bd hok
  have HJ : Hid (Go.Lib.join ((lnW e 5).map (·.data.toList)) [32] = (lnJ e).data.toList) := join_lnW e
  have hjs : ((lnJ e).size : Int) ≤ 1000 := by have := lnJ_size hok; omega
  have HW0 : Hid (lnW e 0 = [ltW]) := rfl
  have HWa : Hid (∀ k, lnW e (k + 1) = lnW e k ++ [digB (numL e k)]) := lnW_add e
  have HWl : Hid (∀ k, (lnW e k).length = k + 1) := lnW_len e
  have HA : Hid (∀ (B W W' : World), W = B.alloc (.cells #[.int .i64 e.id, .int .i64 e.a, .int .i64 e.b, .int .i64 e.c, .int .i64 e.d] 2) → W'.heap[B.heap.size]? = W.heap[B.heap.size]? → ∀ k, k < 5 → W'.cell? ⟨B.heap.size, k, none⟩ = some (.int .i64 (numL e k))) := fun B W W' hW h k hk => by
    rw [World.cell?_of_block (a := ⟨B.heap.size, k, none⟩) h]
    subst hW
    match k, hk with
    | 0, _ => simp [go_sem, numL]
    | 1, _ => simp [go_sem, numL]
    | 2, _ => simp [go_sem, numL]
    | 3, _ => simp [go_sem, numL]
    | 4, _ => simp [go_sem, numL]
  clear ht hok
  generalize numL e = M at *
  generalize lnJ e = J at *
  generalize lnW e = LW at *
  obtain ⟨id, xa, xb, xc, xd⟩ := e
  dsimp only at *
  go_enter Tryd.func14, Tryd.ntmps14
  go_upto_region 2 with fail
  generalize hV : (World.alloc (World.alloc w _) _ : World) = V
  have HBV : Hid (Below w.heap.size w V) := by show Below _ _ _; subst hV; (repeat (first | exact Below.refl _ _ | assumption | refine Below.drew ?_ | refine bl_alloc ?_ _ | refine bl_then ?_ (by assumption) | refine Below.setCell ?_ (by first | omega | (simp; done) | (simp; omega)) _ | refine bl_store ?_ ?_ _ _))
  have hzV : V.heap.size = w.heap.size + 2 := by subst hV; simp
  have HR0 : Hid (RowB w.heap.size V (.slice (some ⟨w.heap.size + 1, 0, none⟩) 1 1) (LW 0)) := by
    rw [HW0.out]
    show World.ownsRow _ _ _ _ _ _ _
    subst hV
    have := World.ownsRow_lit (base := w.heap.size) (e := 9) (size := 1) (w.alloc (.cells #[.int .i64 id, .int .i64 xa, .int .i64 xb, .int .i64 xc, .int .i64 xd] 34)) #[.string ltW] 1 (by simp) (by decide) rfl
    simp at this
    exact this
  have c0 : V.cell? ⟨w.heap.size, 0, none⟩ = some (.int .i64 id) := by subst hV; simp [go_sem]
  have c1 : V.cell? ⟨w.heap.size, 1, none⟩ = some (.int .i64 xa) := by subst hV; simp [go_sem]
  have c2 : V.cell? ⟨w.heap.size, 2, none⟩ = some (.int .i64 xb) := by subst hV; simp [go_sem]
  have c3 : V.cell? ⟨w.heap.size, 3, none⟩ = some (.int .i64 xc) := by subst hV; simp [go_sem]
  have c4 : V.cell? ⟨w.heap.size, 4, none⟩ = some (.int .i64 xd) := by subst hV; simp [go_sem]
  clear hV
  go_wp2_with fail
  generalize hW : (World.alloc V _ : World) = W
  have HAW : Hid (∀ W' : World, W'.heap[V.heap.size]? = W.heap[V.heap.size]? → ∀ k, k < 5 → W'.cell? ⟨V.heap.size, k, none⟩ = some (.int .i64 (M k))) := fun W' h => HA.out V W W' hW.symm h
  have hBW : Below V.heap.size V W := by subst hW; (repeat (first | exact Below.refl _ _ | assumption | refine Below.drew ?_ | refine bl_alloc ?_ _ | refine bl_then ?_ (by assumption) | refine Below.setCell ?_ (by first | omega | (simp; done) | (simp; omega)) _ | refine bl_store ?_ ?_ _ _))
  have hzW : W.heap.size = V.heap.size + 1 := by subst hW; simp
  have HRW : Hid (RowB w.heap.size W (.slice (some ⟨w.heap.size + 1, 0, none⟩) 1 1) (LW 0)) := rowB_but HR0.out hBW
  have HBW : Hid (Below w.heap.size w W) := bl_then HBV.out hBW
  clear hW hBW HA HR0 HBV c0 c1 c2 c3 c4
  rw [hzV] at HAW hzW
  try rw [hzV]
  clear hzV
  go_loopw [3, 19] (fun v i wr => ∃ (k g cp : Nat), i = .int .i64 (k : Int) ∧ v = .slice (some ⟨g, 0, none⟩) ((k + 1 : Nat)) cp ∧ k ≤ 5 ∧ RowB w.heap.size wr (.slice (some ⟨g, 0, none⟩) ((k + 1 : Nat)) cp) (LW k) ∧ g ≠ w.heap.size + 2 ∧ wr.heap[w.heap.size + 2]? = W.heap[w.heap.size + 2]? ∧ w.heap.size + 3 ≤ wr.heap.size ∧ Below w.heap.size w wr) (fun _ i _ => 5 - (intOf i).toNat)
  case atStart => exact ⟨0, w.heap.size + 1, 1, rfl, rfl, Nat.zero_le _, HRW.out, by omega, rfl, by omega, HBW.out⟩
  case round =>
    obtain ⟨k, g, cp, rfl, rfl, hk5, hR, hne, hblk, hsz, hB⟩ := hrel
    have HR : Hid (RowB w.heap.size wr (.slice (some ⟨g, 0, none⟩) ((k + 1 : Nat)) cp) (LW k)) := hR
    have HB : Hid (Below w.heap.size w wr) := hB
    have HK : Hid (wr.heap[w.heap.size + 2]? = W.heap[w.heap.size + 2]?) := hblk
    clear hR hB hblk HRW HBW
    by_cases hk : k < 5
    · have hki : (k : Int) < 5 := by omega
      have hk0 : (0 : Int) ≤ (k : Int) := by omega
      have c := HAW.out wr HK.out k hk
      have HD : Hid (Calls Tryd.prog 18 #[.int .i64 (M k)] wr fun e w' => e = .returned (.string (digB (M k))) ∧ Below wr.heap.size wr w') := digitsOf_any (M k) wr (HBd.out k hk).1 (HBd.out k hk).2 (HTb.out.below HB.out)
      have HWk := (show Hid _ from HWa.out k)
      have HWlk := (show Hid _ from HWl.out k)
      clear HWa
      generalize digB (M k) = D at *
      go_wp2_with fail
      refine Calls.mono HD.out ?_
      rintro e w2 ⟨rfl, hb2⟩
      have HR2 : Hid (RowB w.heap.size w2 (.slice (some ⟨g, 0, none⟩) ((k + 1 : Nat)) cp) (LW k)) := rowB_but HR.out hb2
      have HB2 : Hid (Below w.heap.size w w2) := bl_then HB.out hb2
      have HK2 : Hid (w2.heap[w.heap.size + 2]? = W.heap[w.heap.size + 2]?) := (hb2.block _ (by omega)).trans HK.out
      have hs2 := hb2.size
      have hgl : g < w2.heap.size := (World.ownsRow.lt HR2.out g rfl).2
      clear hb2 HD HR HB HK c
      go_wp2_with (first
        | (at_builtin; go_must (refine wpList_stop ?_)))
      show wpList _ _ _ _ _ _
      generalize hU : (World.alloc w2 _ : World) = U
      have a0 : U.cell? ⟨w2.heap.size, 0, none⟩ = some (.string D) := by subst hU; simp [go_sem]
      have hbU : Below w2.heap.size w2 U := by subst hU; (repeat (first | exact Below.refl _ _ | assumption | refine Below.drew ?_ | refine bl_alloc ?_ _ | refine bl_then ?_ (by assumption) | refine Below.setCell ?_ (by first | omega | (simp; done) | (simp; omega)) _ | refine bl_store ?_ ?_ _ _))
      have hzU : U.heap.size = w2.heap.size + 1 := by subst hU; simp
      have HRU : Hid (RowB w.heap.size U (.slice (some ⟨g, 0, none⟩) ((k + 1 : Nat)) cp) (LW k)) := rowB_but HR2.out hbU
      have HBU : Hid (Below w.heap.size w U) := bl_then HB2.out hbU
      have HKU : Hid (U.heap[w.heap.size + 2]? = W.heap[w.heap.size + 2]?) := (hbU.block _ (by omega)).trans HK2.out
      clear hU hbU HR2 HB2 HK2
      refine wpList_append_own2 rfl (.tmp 23) (.tmp 26) 44 rfl w.heap.size 9 i0 (.string ⟨#[]⟩) 1 16 Tryd.underlying44 hi hz0 hz1 hz2 rfl (by decide) (.slice (some ⟨g, 0, none⟩) ((k + 1 : Nat)) cp) (LW k).length ((LW k).map (.string ·)) rfl ?r0 ⟨w2.heap.size, 0, none⟩ 1 1 [.string D] rfl rfl ?r1 ?r2 ?r3 ?r4 ?r5 ?_
      case r0 => exact HRU.out
      case r1 =>
        intro q u hq
        match q, hq with
        | 0, hq => exact (Option.some.inj hq) ▸ a0
        | q + 1, hq => cases hq
      case r2 => intro u hu; simp at hu; subst hu; rfl
      case r3 => rw [HWlk.out]; unfold maxLen; omega
      case r4 => rw [HWlk.out]; omega
      case r5 => have := HBU.out.size; omega
      intro v6 w6 hown6 hg6 hl6
      have HR6 : Hid (RowB w.heap.size w6 v6 (LW (k + 1))) := by
        rw [HWk.out]
        show World.ownsRow _ _ _ _ _ _ _
        rw [List.length_append, List.map_append]
        exact hown6
      obtain ⟨g6, cp6, hv6, _⟩ := rowB_form HR6.out (by rw [HWk.out]; simp)
      rw [HWl.out] at hv6
      subst hv6
      have hg6n : g6 ≠ w.heap.size + 2 := by
        rcases hl6 g6 rfl with h | h
        · have h' : some g = some g6 := h
          injection h' with h'
          omega
        · omega
      have HK6 : Hid (w6.heap[w.heap.size + 2]? = W.heap[w.heap.size + 2]?) := (hg6.block _ (by omega) (by simp [Value.ownBlock]; omega)).trans HKU.out
      have HB6 : Hid (Below w.heap.size w w6) := HBU.out.grown hg6 (HBU.out.size) (fun j hj => by have := World.ownsRow.lt HRU.out j hj; omega)
      have hs6 := hg6.size
      clear hown6 hg6 hl6 a0 HRU HBU HKU
      go_wp2_with fail
      exact ⟨⟨k + 1, g6, cp6, by simp, rfl, by omega, HR6.out, hg6n, HK6.out, by omega, HB6.out⟩, by simp [intOf]; omega⟩
    · obtain rfl : k = 5 := by omega
      have hgl : g < wr.heap.size := (World.ownsRow.lt HR.out g rfl).2
      obtain ⟨_, cq, hvq, hcq⟩ := rowB_form HR.out (by rw [HWl.out]; omega)
      have hJn := Tryd.joinD g 0 cp (LW 5) ⟨#[32]⟩ wr (fun j x hx => by
        have := World.ownsRow.cells HR.out (g := g) rfl j (.string x) (by simp [hx])
        rw [Nat.zero_add]
        rw [add_plainB] at this
        exact this) hgl (by rw [HWl.out]; omega) (by injection hvq with _ _ hvq; rw [hvq]; exact hcq) (by
        have e : (⟨#[32]⟩ : ByteArray).data.toList = [32] := rfl
        rw [e, HJ.out]
        have h4 : J.data.toList.length = J.size := by rw [Array.length_toList]; rfl
        omega)
      rw [HWl.out, show (⟨#[32]⟩ : ByteArray).data.toList = [32] from rfl, HJ.out] at hJn
      have eT : (⟨J.data.toList.toArray⟩ : ByteArray) = J := by cases J; rfl
      rw [eT] at hJn
      have HJn := (show Hid _ from hJn)
      clear hJn eT hvq hcq
      go_wp2_with fail
      refine Calls.mono HJn.out ?_
      rintro e w5 ⟨rfl, hb5⟩
      have HX : Hid (Below w.heap.size w w5) := bl_then HB.out hb5
      clear hb5 HJn
      go_wp2
      go_ret
      exact ⟨rfl, HX.out⟩
set_option maxHeartbeats 8000000 in
theorem impl_LabelsText_any (a : Option Addr) (n cap : Nat) (E : Nat → Plc) (w : World) (hp : IsLb w a n E) (hn : n ≤ 1048576) (ht : TabB w) :
    Calls Tryd.prog 7 #[.slice a n cap] w fun e w' => e = .returned (.agg #[.int .i64 (lblC n E), .string (lblT n E)]) ∧ Below w.heap.size w w' := by
  obtain ⟨C, hC⟩ : ∃ C, lblC n E = C := ⟨_, rfl⟩
  obtain ⟨TT, hTT⟩ : ∃ TT, lblT n E = TT := ⟨_, rfl⟩
  have HC : Hid (lblC n E = C) := hC
  have HT : Hid (lblT n E = TT) := hTT
  rw [hC, hTT]
  have HP : Hid (IsLb w a n E) := hp
  have HTb : Hid (TabB w) := ht
  clear hp hC hTT ht
  go_enter Tryd.func7, Tryd.ntmps7
  go_upto_region 1 with fail
  generalize hW : (w.alloc _ : World) = W
  have HB0 : Hid (Below w.heap.size w W) := by show Below _ _ _; subst hW; (repeat (first | exact Below.refl _ _ | assumption | refine Below.drew ?_ | refine bl_alloc ?_ _ | refine bl_then ?_ (by assumption) | refine Below.setCell ?_ (by first | omega | (simp; done) | (simp; omega)) _ | refine bl_store ?_ ?_ _ _))
  have HR : Hid (∀ W', Below W.heap.size W W' → W'.cell? ⟨w.heap.size, 0, none⟩ = some (.int .i64 0) ∧ W'.cell? ⟨w.heap.size, 1, none⟩ = some (.string ⟨#[]⟩) ∧ W'.frozen? ⟨w.heap.size, 0, none⟩ = false ∧ W'.frozen? ⟨w.heap.size, 1, none⟩ = false) := fun W' h => by
    rw [h.cell (by subst hW; simp), h.cell (by subst hW; simp), h.frozen (by subst hW; simp), h.frozen (by subst hW; simp)]
    subst hW
    simp [go_sem]
  have hfin : ∀ W' W'', Below W.heap.size W W' → W'' = (W'.setCell ⟨w.heap.size, 0, none⟩ (.int .i64 C)).setCell ⟨w.heap.size, 1, none⟩ (.string TT) → Below w.heap.size w W'' := fun W' W'' h e => by
    subst e
    exact ((HB0.out.trans (h.mono HB0.out.size)).setCell (Nat.le_refl _) _).setCell (Nat.le_refl _) _
  have HFin := (show Hid _ from hfin)
  have hWl : w.heap.size ≤ W.heap.size := HB0.out.size
  clear hW hfin
  have HPW : Hid (∀ W', Below W.heap.size W W' → IsLb W' a n E) := fun W' h => HP.out.below (HB0.out.trans (h.mono HB0.out.size))
  have HTW : Hid (∀ W', Below W.heap.size W W' → TabB W') := fun W' h => HTb.out.below (HB0.out.trans (h.mono HB0.out.size))
  by_cases h12 : 12 < n
  · have h12i : (12 : Int) < (n : Int) := by omega
    obtain rfl : C = 2 := by rw [← HC.out]; unfold lblC; rw [if_pos h12]
    obtain rfl : TT = ⟨#[]⟩ := by rw [← HT.out]; unfold lblT; rw [if_pos h12]
    obtain ⟨u0, u1, v0, v1⟩ := HR.out W (Below.refl _ _)
    go_wp2_with fail
    refine bodyPost_ret (v := .agg #[.int .i64 2, .string ⟨#[]⟩]) (by simp [results, Tryd.results7, go_sem, *]) rfl ⟨rfl, ?_⟩
    exact HFin.out W _ (Below.refl _ _) rfl
  have h12i : ¬ (12 : Int) < (n : Int) := by omega
  have HC2 : Hid (C = if allL E n = true then 0 else 3) := by show _ = _; rw [← HC.out]; unfold lblC; rw [if_neg h12]
  have HT2 : Hid (TT = if allL E n = true then (if n = 0 then ltNo else lbsT E n) else ⟨#[]⟩) := by show _ = _; rw [← HT.out]; unfold lblT; rw [if_neg h12]
  clear HC HT HP HTb
  by_cases hn0 : n = 0
  · subst hn0
    obtain rfl : C = 0 := by rw [HC2.out]; rfl
    obtain rfl : TT = ltNo := by rw [HT2.out]; rfl
    obtain ⟨u0, u1, v0, v1⟩ := HR.out W (Below.refl _ _)
    go_wp2_with fail
    refine bodyPost_ret (v := .agg #[.int .i64 0, .string ltNo]) (by simp [results, Tryd.results7, go_sem, ltNo, *]) rfl ⟨rfl, ?_⟩
    exact HFin.out W _ (Below.refl _ _) rfl
  have hn0i : ¬ (n : Int) = 0 := by omega
  go_wp2_with fail
  go_loopw [3, 17] (fun t i wr => ∃ k : Nat, i = .int .i64 (k : Int) ∧ t = .string (lbsT E k) ∧ k ≤ n ∧ (∀ j, j < k → okL (E j) = true) ∧ Below W.heap.size W wr) (fun _ i _ => n - (intOf i).toNat)
  case atStart => exact ⟨0, rfl, rfl, Nat.zero_le _, fun j hj => absurd hj (Nat.not_lt_zero _), Below.refl _ _⟩
  case round =>
    obtain ⟨k, rfl, rfl, hkn, hz, hB⟩ := hrel
    have HB : Hid (Below W.heap.size W wr) := hB
    have HZ : Hid (∀ j, j < k → okL (E j) = true) := hz
    have zt : ((lbsT E k).size : Int) ≤ 2000 := by have := (lbsT_size (E := E) (n := k) hz).2; omega
    clear hB hz
    by_cases hk : k < n
    · have hki : (k : Int) < (n : Int) := by omega
      have hki0 : (0 : Int) ≤ (k : Int) := by omega
      obtain ⟨b, off, rfl, hbl, hp⟩ := plc_get (HPW.out _ HB.out) hk
      have HF := (show Hid _ from fun W => placedFault_any (E k) W)
      have HNo : Hid (okL (E k) = false → C = 3 ∧ TT = ⟨#[]⟩) := fun h => by
        rw [HC2.out, HT2.out, if_neg (by rw [allL_false hk h]; simp), if_neg (by rw [allL_false hk h]; simp)]
        exact ⟨rfl, rfl⟩
      have HYes : Hid (okL (E k) = true → ∀ j, j < k + 1 → okL (E j) = true) := fun h j hj => by
        by_cases e : j = k
        · rw [e]; exact h
        · exact HZ.out j (by omega)
      have HLi : Hid (okL (E k) = true → ∀ W', TabB W' → Calls Tryd.prog 14 #[plcV (E k)] W' fun r w' => r = .returned (.string (lnJ (E k) ++ ltN)) ∧ Below W'.heap.size W' w') := fun h W' ht => placedLine_any (E k) W' h ht
      have HLs : Hid (okL (E k) = true → ((lnJ (E k) ++ ltN).size : Int) ≤ 1000) := fun h => by
        have := lnJ_size h
        have e3 : ltN.size = 1 := rfl
        rw [ByteArray.size_append, e3]
        omega
      have HT3 : Hid (lbsT E (k + 1) = lbsT E k ++ (lnJ (E k) ++ ltN)) := lnT_eq (lbsT E k) (E k)
      obtain ⟨g0, g1, g2, g3, g4⟩ := hp
      generalize lbsT E k = T at *
      generalize hL : lnJ (E k) ++ ltN = L at *
      clear hL
      generalize okL (E k) = ok at *
      obtain ⟨ek, hek⟩ : ∃ ek, E k = ek := ⟨_, rfl⟩
      rw [hek] at g0 g1 g2 g3 g4 HF HLi
      clear hek
      obtain ⟨id, xa, xb, xc, xd⟩ := ek
      dsimp only at *
      go_wp2_with fail
      generalize hA : (World.alloc wr _ : World) = V
      have hbV : Below wr.heap.size wr V := by subst hA; (repeat (first | exact Below.refl _ _ | assumption | refine Below.drew ?_ | refine bl_alloc ?_ _ | refine bl_then ?_ (by assumption) | refine Below.setCell ?_ (by first | omega | (simp; done) | (simp; omega)) _ | refine bl_store ?_ ?_ _ _))
      have HV : Hid (∀ W', Below V.heap.size V W' → W'.cell? ⟨wr.heap.size, 0, none⟩ = some (.int .i64 id) ∧ W'.cell? ⟨wr.heap.size, 1, none⟩ = some (.int .i64 xa) ∧ W'.cell? ⟨wr.heap.size, 2, none⟩ = some (.int .i64 xb) ∧ W'.cell? ⟨wr.heap.size, 3, none⟩ = some (.int .i64 xc) ∧ W'.cell? ⟨wr.heap.size, 4, none⟩ = some (.int .i64 xd)) := fun W' h => by
        rw [h.cell (by subst hA; simp), h.cell (by subst hA; simp), h.cell (by subst hA; simp), h.cell (by subst hA; simp), h.cell (by subst hA; simp)]
        subst hA
        simp [go_sem]
      have HBV : Hid (Below W.heap.size W V) := bl_then HB.out hbV
      clear hA hbV g0 g1 g2 g3 g4
      refine Calls.mono (HF.out V) ?_
      rintro e w1 ⟨rfl, hb1⟩
      have HB1 : Hid (Below W.heap.size W w1) := bl_then HBV.out hb1
      obtain ⟨c0, c1, c2, c3, c4⟩ := HV.out w1 hb1
      clear hb1 HF HV HBV
      cases ok
      case false =>
        obtain ⟨hc3, ht3⟩ := HNo.out rfl
        subst hc3 ht3
        obtain ⟨u0, u1, v0, v1⟩ := HR.out _ HB1.out
        clear HNo HYes HLi HLs HC2 HT2
        go_wp2_with fail
        refine bodyPost_ret (v := .agg #[.int .i64 3, .string ⟨#[]⟩]) (by simp [results, Tryd.results7, go_sem, *]) rfl ⟨rfl, ?_⟩
        exact HFin.out _ _ HB1.out rfl
      case true =>
        have HL2 := (show Hid _ from HLi.out rfl w1 (HTW.out _ HB1.out))
        have zl := HLs.out rfl
        have HY2 := (show Hid _ from HYes.out rfl)
        clear HNo HYes HLi HLs
        go_wp2_with fail
        refine Calls.mono HL2.out ?_
        rintro e w2 ⟨rfl, hb2⟩
        have HB2 : Hid (Below W.heap.size W w2) := bl_then HB1.out hb2
        clear hb2 HL2
        go_wp2_with fail
        exact ⟨⟨k + 1, by simp, by rw [HT3.out], by omega, HY2.out, HB2.out⟩, by simp [intOf]; omega⟩
    · obtain rfl : k = n := by omega
      have hne : ¬ (k : Int) < (k : Int) := by omega
      have hall := allL_true HZ.out
      obtain rfl : C = 0 := by rw [HC2.out, if_pos hall]
      have hTe : TT = lbsT E k := by rw [HT2.out, if_pos hall, if_neg hn0]
      rw [← hTe]
      obtain ⟨u0, u1, v0, v1⟩ := HR.out _ HB.out
      clear hTe hall
      go_wp2_with fail
      refine bodyPost_ret (v := .agg #[.int .i64 0, .string TT]) (by simp [results, Tryd.results7, go_sem, *]) rfl ⟨rfl, ?_⟩
      exact HFin.out _ _ HB.out rfl
end Go.Proofs.YtbijdoddalfedaaDoor
