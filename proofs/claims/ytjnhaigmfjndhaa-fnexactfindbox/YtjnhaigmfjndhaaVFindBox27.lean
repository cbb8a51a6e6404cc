/- The fault of quads: the program's and the model's way. -/
import Derived.Test.YtjnhaigmfjndhaaVFindBox26
import Derived.Test.YtjnhaigmfjndhaaVFindBox11
import Derived.Test.YtjnhaigmfjndhaaVFindBox10
namespace Go.Proofs.Ytjnhaigmfjndhaa
open Go.RowKit Go.Shelf
set_option linter.unusedSimpArgs false
set_option linter.unusedVariables false
set_option maxRecDepth 100000

def entAt (es : List Ent) (i : Nat) : Ent := (es[i]?).getD ⟨0, 0, 0, 0, 0⟩
theorem entsCs_cons (e : Ent) (es : List Ent) : entsCs (e :: es) = .int .i64 e.id :: .int .i64 e.a :: .int .i64 e.b :: .int .i64 e.c :: .int .i64 e.d :: entsCs es := by simp [entsCs, entCs]
theorem entsCs_at : ∀ (es : List Ent) (i : Nat), i < es.length → (entsCs es)[i * 5]? = some (.int .i64 (entAt es i).id) ∧ (entsCs es)[i * 5 + 1]? = some (.int .i64 (entAt es i).a) ∧ (entsCs es)[i * 5 + 2]? = some (.int .i64 (entAt es i).b) ∧ (entsCs es)[i * 5 + 3]? = some (.int .i64 (entAt es i).c) ∧ (entsCs es)[i * 5 + 4]? = some (.int .i64 (entAt es i).d)
  | [], i, h => absurd h (by simp)
  | e :: es, 0, h => by rw [entsCs_cons]; simp [entAt]
  | e :: es, i + 1, h => by
    have h' := entsCs_at es i (by simpa using h)
    rw [entsCs_cons]
    have e1 : (i + 1) * 5 = i * 5 + 1 + 1 + 1 + 1 + 1 := by omega
    have e2 : entAt (e :: es) (i + 1) = entAt es i := by simp [entAt]
    rw [e1, e2]
    simp only [List.getElem?_cons_succ]
    exact h'
theorem esAt_row {w : World} {base g cap : Nat} {es : List Ent} (h : w.ownsRow base 69 5 (.slice (some ⟨g, 0, none⟩) es.length cap) es.length (entsCs es)) : EsAt w g 0 es.length (entAt es) := fun i hi => by
  obtain ⟨h0, h1, h2, h3, h4⟩ := entsCs_at es i hi
  simp only [Nat.zero_add]
  exact ⟨(h.cellAt _ (by omega)).trans h0, (h.cellAt _ (by omega)).trans h1, (h.cellAt _ (by omega)).trans h2, (h.cellAt _ (by omega)).trans h3, (h.cellAt _ (by omega)).trans h4⟩
/-- All entries of quads. -/
def esOf (Q : Nat → Qd) (n : Nat) : List Ent := (allE Q n).map (·.2)
theorem esOf_len (Q : Nat → Qd) (n : Nat) : (esOf Q n).length = (allE Q n).length := by simp [esOf]
/-- What is not right of quads. -/
noncomputable def quadsC (Q : Nat → Qd) (n : Nat) : Int :=
  if n < 1 ∨ 200 < n ∨ 24 < (allE Q n).length then 2
  else if scanC (oneC Q n) 0 n ≠ 0 then scanC (oneC Q n) 0 n
  else if entsC (esOf Q n).length (entAt (esOf Q n)) ≠ 0 then entsC (esOf Q n).length (entAt (esOf Q n))
  else if oneT Q n = true then 0 else 8
theorem oneC_bad {Q : Nat → Qd} {n i : Nat} (h : oneC Q n i = 0) : badAt Q n i = false := by
  cases hb : badAt Q n i with
  | false => rfl
  | true => unfold oneC at h; rw [hb] at h; simp at h

theorem QsAt.now {w w' : World} {p off n : Nat} {Q : Nat → Qd} (h : QsAt w w.heap.size p off n Q) (hb : Below w.heap.size w w') : QsAt w' w'.heap.size p off n Q :=
  ⟨Nat.lt_of_lt_of_le h.1 hb.size, fun i hi => ⟨((h.below hb).2 i hi).1, ((h.below hb).2 i hi).2.imp id (fun ⟨b, o, e, hl, hE⟩ => ⟨b, o, e, Nat.lt_of_lt_of_le hl hb.size, hE⟩)⟩⟩
theorem EntriesFault_nil (w : World) : Calls Try.prog 51 #[.slice none 0 0] w fun e w' => e = .returned (.int .i64 0) ∧ Below w.heap.size w w' := by
  go_enter Try.func51, Try.ntmps51
  go_wp2
  go_loopw [11] (fun v wr => v = .int .i64 0 ∧ w = wr) (fun _ _ => 0)
  case atStart => exact ⟨rfl, rfl⟩
  case round =>
    obtain ⟨rfl, rfl⟩ := hrel
    go_wp2
    go_ret
    exact ⟨rfl, by (repeat (first | exact Below.refl _ _ | assumption | refine Below.drew ?_ | refine bl_alloc ?_ _ | refine bl_then ?_ (by assumption) | refine Below.setCell ?_ (by first | omega | (simp; done) | (simp; omega)) _ | refine bl_store ?_ ?_ _ _))⟩
/-- Of a row of entries. -/
theorem EntriesFault_row (base : Nat) (v : Value) (es : List Ent) (w : World) (h : w.ownsRow base 69 5 v es.length (entsCs es)) (hn : es.length ≤ 1048576) :
    Calls Try.prog 51 #[v] w fun e w' => e = .returned (.int .i64 (entsC es.length (entAt es))) ∧ Below w.heap.size w w' := by
  have h' := h
  obtain ⟨_, h2 | ⟨g, cp, cur, rfl, hg, hh, hkc, hr⟩⟩ := h
  · obtain ⟨rfl, h0⟩ := h2
    rw [h0]
    have e : entsC 0 (entAt es) = 0 := by unfold entsC; rw [if_neg (by omega)]; rfl
    rw [e]
    exact EntriesFault_nil w
  · exact EntriesFault_any g es.length cp (entAt es) w (esAt_row h') (lt_of_heap hh) hn hkc
theorem l5Fault_nil (w : World) : Calls Try.prog 44 #[.slice none 0 0] w fun e w' => e = .returned (.int .i64 0) ∧ Below w.heap.size w w' := by
  go_enter Try.func44, Try.ntmps44
  go_wp2
  go_loopw [3] (fun v wr => v = .int .i64 0 ∧ w = wr) (fun _ _ => 0)
  case atStart => exact ⟨rfl, rfl⟩
  case round =>
    obtain ⟨rfl, rfl⟩ := hrel
    go_wp2
    go_ret
    exact ⟨rfl, by (repeat (first | exact Below.refl _ _ | assumption | refine Below.drew ?_ | refine bl_alloc ?_ _ | refine bl_then ?_ (by assumption) | refine Below.setCell ?_ (by first | omega | (simp; done) | (simp; omega)) _ | refine bl_store ?_ ?_ _ _))⟩
theorem l5Fault_row (base : Nat) (v : Value) (es : List Ent) (w : World) (h : w.ownsRow base 69 5 v es.length (entsCs es)) (hn : es.length ≤ 1048576) :
    Calls Try.prog 44 #[v] w fun e w' => e = .returned (.int .i64 (entsC es.length (entAt es))) ∧ Below w.heap.size w w' := by
  have h' := h
  obtain ⟨_, h2 | ⟨g, cp, cur, rfl, hg, hh, hkc, hr⟩⟩ := h
  · obtain ⟨rfl, h0⟩ := h2
    rw [h0]
    have e : entsC 0 (entAt es) = 0 := by unfold entsC; rw [if_neg (by omega)]; rfl
    rw [e]
    exact l5Fault_nil w
  · exact l5Fault_any g es.length cp (entAt es) w (esAt_row h') (lt_of_heap hh) hn
set_option maxHeartbeats 4000000 in
theorem impl_QuadsFault_any (p off n cap : Nat) (Q : Nat → Qd) (w : World) (hQ : QsAt w w.heap.size p off n Q) (hn : n ≤ 1048576) (hcap : n ≤ cap) (hen : ∀ i, i < n → (Q i).en ≤ 1048576) (hall : (allE Q n).length ≤ 1048576) :
    Calls Try.prog 27 #[.slice (some ⟨p, off, none⟩) n cap] w fun e w' => e = .returned (.int .i64 (quadsC Q n)) ∧ Below w.heap.size w w' := by
  have HQ : Hid (QsAt w w.heap.size p off n Q) := hQ
  have HE : Hid (∀ i, i < n → (Q i).en ≤ 1048576) := hen
  have HA : Hid ((allE Q n).length ≤ 1048576) := hall
  clear hQ hen hall
  by_cases hlen : n < 1 ∨ 200 < n
  · have hz : Hid (quadsC Q n = 2) := by show _ = _; unfold quadsC; rw [if_pos (by omega)]
    by_cases h1 : (n : Int) < 1
    · go_enter Try.func27, Try.ntmps27
      go_wp2
      go_ret
      exact ⟨ret_int hz.out.symm, by (repeat (first | exact Below.refl _ _ | assumption | refine Below.drew ?_ | refine bl_alloc ?_ _ | refine bl_then ?_ (by assumption) | refine Below.setCell ?_ (by first | omega | (simp; done) | (simp; omega)) _ | refine bl_store ?_ ?_ _ _))⟩
    · have h2 : (200 : Int) < (n : Int) := by omega
      go_enter Try.func27, Try.ntmps27
      go_wp2
      go_ret
      exact ⟨ret_int hz.out.symm, by (repeat (first | exact Below.refl _ _ | assumption | refine Below.drew ?_ | refine bl_alloc ?_ _ | refine bl_then ?_ (by assumption) | refine Below.setCell ?_ (by first | omega | (simp; done) | (simp; omega)) _ | refine bl_store ?_ ?_ _ _))⟩
  · have h1 : ¬ (n : Int) < 1 := by omega
    have h2 : ¬ (200 : Int) < (n : Int) := by omega
    have hn2 : n ≤ 200 := by omega
    have hn0 : 0 < n := by omega
    by_cases h24 : 24 < (allE Q n).length
    · have hz : Hid (quadsC Q n = 2) := by show _ = _; unfold quadsC; rw [if_pos (by omega)]
      have h24' : decide (24 < (allE Q n).length) = true := by simpa using h24
      clear hlen
      go_enter Try.func27, Try.ntmps27
      go_wp2_with (go_at_call 49; refine (areTooMany_any p off n cap Q _ HQ.out hn HE.out).mono ?_; rintro e w1 ⟨rfl, hb1⟩)
      go_ret
      exact ⟨ret_int hz.out.symm, by (repeat (first | exact Below.refl _ _ | assumption | refine Below.drew ?_ | refine bl_alloc ?_ _ | refine bl_then ?_ (by assumption) | refine Below.setCell ?_ (by first | omega | (simp; done) | (simp; omega)) _ | refine bl_store ?_ ?_ _ _))⟩
    · have hz : Hid (quadsC Q n = if scanC (oneC Q n) 0 n ≠ 0 then scanC (oneC Q n) 0 n else if entsC (esOf Q n).length (entAt (esOf Q n)) ≠ 0 then entsC (esOf Q n).length (entAt (esOf Q n)) else if oneT Q n = true then 0 else 8) := by show _ = _; unfold quadsC; rw [if_neg (by omega)]
      have h24' : decide (24 < (allE Q n).length) = false := by simpa using h24
      clear hlen h24
      go_enter Try.func27, Try.ntmps27
      go_upto_region 3 with (go_at_call 49; refine (areTooMany_any p off n cap Q _ HQ.out hn HE.out).mono ?_; rintro e w1 ⟨rfl, hb1⟩)
      have HB1 : Hid (Below w.heap.size w w1) := hb1
      clear hb1 h24'
      go_wp2
      go_loopw [20] (fun i wr => ∃ k : Nat, k ≤ n ∧ i = .int .i64 (k : Int) ∧ (∀ j, j < k → oneC Q n j = 0) ∧ Below w.heap.size w wr) (fun i _ => n - (intOf i).toNat)
      case atStart => exact ⟨0, by omega, rfl, by omega, HB1.out⟩
      case round =>
        obtain ⟨k, hk, rfl, hall, hB⟩ := hrel
        have HAL : Hid (∀ j, j < k → oneC Q n j = 0) := hall
        have HB : Hid (Below w.heap.size w wr) := hB
        have HQr : Hid (QsAt wr wr.heap.size p off n Q) := ⟨Nat.lt_of_lt_of_le HQ.out.1 hB.size, fun i hi => ⟨((HQ.out.below hB).2 i hi).1, ((HQ.out.below hB).2 i hi).2.imp id (fun ⟨b, o, e, hl, hE⟩ => ⟨b, o, e, Nat.lt_of_lt_of_le hl hB.size, hE⟩)⟩⟩
        clear hall hB
        by_cases hlt : k < n
        · have hi1 : (k : Int) < (n : Int) := by omega
          have HC : Hid (Calls Try.prog 50 #[.slice (some ⟨p, off, none⟩) n cap, .int .i64 (k : Int)] wr fun e w' => e = .returned (.int .i64 (oneC Q n k)) ∧ Below wr.heap.size wr w') := quadFault_any p off n cap k Q wr HQr.out hn hlt hcap
          by_cases hc0 : oneC Q n k = 0
          · have HC0 : Hid (oneC Q n k = 0) := hc0
            rw [hc0] at HC
            clear hc0
            go_wp2_with (go_at_call 50; refine Calls.mono HC.out ?_; rintro e w2 ⟨rfl, hb2⟩)
            go_roundw
            case rel => exact ⟨k + 1, by omega, by go_num, fun j hj => by
                by_cases e : j = k
                · rw [e]; exact HC0.out
                · exact HAL.out j (by omega), bl_then HB.out hb2⟩
            case measure => simp [intOf]; omega
          · have hsc : scanC (oneC Q n) 0 n = oneC Q n k := scan_first (oneC Q n) n 0 k (fun j _ hj => HAL.out j hj) (by omega) (by omega) hc0
            have hz2 : Hid (quadsC Q n = oneC Q n k) := by show _ = _; rw [hz.out, hsc, if_pos hc0]
            obtain ⟨c, hcc⟩ : ∃ c, oneC Q n k = c := ⟨_, rfl⟩
            rw [hcc] at HC hz2 hc0
            clear hsc hcc hz
            go_wp2_with (go_at_call 50; refine Calls.mono HC.out ?_; rintro e w2 ⟨rfl, hb2⟩)
            go_ret
            exact ⟨ret_int hz2.out.symm, bl_then HB.out hb2⟩
        · have hi1 : ¬ (k : Int) < (n : Int) := by omega
          have hkn : k = n := by omega
          subst hkn
          have hsc : scanC (oneC Q k) 0 k = 0 := scan_none (oneC Q k) k 0 (fun j _ hj => HAL.out j (by omega))
          have hz2 : Hid (quadsC Q k = if entsC (esOf Q k).length (entAt (esOf Q k)) ≠ 0 then entsC (esOf Q k).length (entAt (esOf Q k)) else if oneT Q k = true then 0 else 8) := by show _ = _; rw [hz.out, hsc, if_neg (by simp)]
          have HBD : Hid (∀ i, i < k → badAt Q k i = false) := fun i hi => oneC_bad (HAL.out i hi)
          clear hsc hz HAL
          go_wp2_with fail
          refine (listOf_any p off k cap Q wr HQr.out hn HE.out HA.out).mono ?_
          rintro e w2 ⟨v, rfl, hR, hb2⟩
          have HR : Hid (w2.ownsRow wr.heap.size 69 5 v (esOf Q k).length (entsCs (esOf Q k))) := by show World.ownsRow _ _ _ _ _ _ _; rw [esOf_len]; exact hR
          have HB2 : Hid (Below w.heap.size w w2) := bl_then HB.out hb2
          have HQ2 : Hid (QsAt w2 w2.heap.size p off k Q) := ⟨Nat.lt_of_lt_of_le HQr.out.1 hb2.size, fun i hi => ⟨((HQr.out.below hb2).2 i hi).1, ((HQr.out.below hb2).2 i hi).2.imp id (fun ⟨b, o, e, hl, hE⟩ => ⟨b, o, e, Nat.lt_of_lt_of_le hl hb2.size, hE⟩)⟩⟩
          clear hR hb2 HQr
          have HEF : Hid (Calls Try.prog 51 #[v] w2 fun e w' => e = .returned (.int .i64 (entsC (esOf Q k).length (entAt (esOf Q k)))) ∧ Below w2.heap.size w2 w') := EntriesFault_row _ v (esOf Q k) w2 HR.out (by rw [esOf_len]; exact HA.out)
          clear HR
          generalize entsC (esOf Q k).length (entAt (esOf Q k)) = c at *
          by_cases hc0 : c = 0
          · subst hc0
            have hz3 : Hid (quadsC Q k = if oneT Q k = true then 0 else 8) := by show _ = _; rw [hz2.out, if_neg (by simp)]
            clear hz2
            go_wp2_with fail
            refine Calls.mono HEF.out ?_
            rintro e w3 ⟨rfl, hb3⟩
            have HB3 : Hid (Below w.heap.size w w3) := bl_then HB2.out hb3
            have HIT : Hid (Calls Try.prog 52 #[.slice (some ⟨p, off, none⟩) k cap] w3 fun e w' => e = .returned (.bool (oneT Q k)) ∧ Below w3.heap.size w3 w') :=
              isOneTree_any p off k cap Q w3 ⟨Nat.lt_of_lt_of_le HQ2.out.1 hb3.size, fun i hi => ⟨((HQ2.out.below hb3).2 i hi).1, ((HQ2.out.below hb3).2 i hi).2.imp id (fun ⟨b, o, e, hl, hE⟩ => ⟨b, o, e, Nat.lt_of_lt_of_le hl hb3.size, hE⟩)⟩⟩ hn2 hn0 hcap HBD.out
            clear hb3
            cases ho : oneT Q k
            · rw [ho] at HIT hz3
              go_wp2_with (go_at_call 52; refine Calls.mono HIT.out ?_; rintro e w4 ⟨rfl, hb4⟩)
              go_ret
              exact ⟨ret_int (by rw [hz3.out]; rfl), bl_then HB3.out hb4⟩
            · rw [ho] at HIT hz3
              go_wp2_with (go_at_call 52; refine Calls.mono HIT.out ?_; rintro e w4 ⟨rfl, hb4⟩)
              go_ret
              exact ⟨ret_int (by rw [hz3.out]; rfl), bl_then HB3.out hb4⟩
          · have hz3 : Hid (quadsC Q k = c) := by show _ = _; rw [hz2.out, if_pos hc0]
            clear hz2
            go_wp2_with (go_at_call 51; refine Calls.mono HEF.out ?_; rintro e w3 ⟨rfl, hb3⟩)
            go_ret
            exact ⟨ret_int hz3.out.symm, bl_then HB2.out hb3⟩
set_option maxHeartbeats 4000000 in
theorem l5Quads_any (p off n cap : Nat) (Q : Nat → Qd) (w : World) (hQ : QsAt w w.heap.size p off n Q) (hn : n ≤ 1048576) (hS : ∀ i, i < n → ∃ b o, (Q i).ea = some ⟨b, o, none⟩ ∧ b < w.heap.size ∧ EsAt w b o (Q i).en (Q i).E) (hen : ∀ i, i < n → (Q i).en ≤ 1048576) (hall : (allE Q n).length ≤ 1048576) :
    Calls Try.prog 21 #[.slice (some ⟨p, off, none⟩) n cap] w fun e w' => e = .returned (.int .i64 (quadsC Q n)) ∧ Below w.heap.size w w' := by
  have HQ : Hid (QsAt w w.heap.size p off n Q) := hQ
  have HS : Hid (∀ i, i < n → ∃ b o, (Q i).ea = some ⟨b, o, none⟩ ∧ b < w.heap.size ∧ EsAt w b o (Q i).en (Q i).E) := hS
  have HSb : Hid (∀ w', Below w.heap.size w w' → ∀ i, i < n → ∃ b o, (Q i).ea = some ⟨b, o, none⟩ ∧ b < w'.heap.size ∧ EsAt w' b o (Q i).en (Q i).E) := fun w' hb i hi => by
    obtain ⟨b, o, e, hl, hE⟩ := hS i hi
    exact ⟨b, o, e, Nat.lt_of_lt_of_le hl hb.size, hE.below hb hl⟩
  have HE : Hid (∀ i, i < n → (Q i).en ≤ 1048576) := hen
  clear hS
  have HA : Hid ((allE Q n).length ≤ 1048576) := hall
  clear hQ hen hall
  by_cases hlen : n < 1 ∨ 200 < n
  · have hz : Hid (quadsC Q n = 2) := by show _ = _; unfold quadsC; rw [if_pos (by omega)]
    by_cases h1 : (n : Int) < 1
    · go_enter Try.func21, Try.ntmps21
      go_wp2
      go_ret
      exact ⟨ret_int hz.out.symm, by (repeat (first | exact Below.refl _ _ | assumption | refine Below.drew ?_ | refine bl_alloc ?_ _ | refine bl_then ?_ (by assumption) | refine Below.setCell ?_ (by first | omega | (simp; done) | (simp; omega)) _ | refine bl_store ?_ ?_ _ _))⟩
    · have h2 : (200 : Int) < (n : Int) := by omega
      go_enter Try.func21, Try.ntmps21
      go_wp2
      go_ret
      exact ⟨ret_int hz.out.symm, by (repeat (first | exact Below.refl _ _ | assumption | refine Below.drew ?_ | refine bl_alloc ?_ _ | refine bl_then ?_ (by assumption) | refine Below.setCell ?_ (by first | omega | (simp; done) | (simp; omega)) _ | refine bl_store ?_ ?_ _ _))⟩
  · have h1 : ¬ (n : Int) < 1 := by omega
    have h2 : ¬ (200 : Int) < (n : Int) := by omega
    have hn2 : n ≤ 200 := by omega
    have hn0 : 0 < n := by omega
    have HL0 : Hid (∀ W, Below w.heap.size w W → Calls Try.prog 24 #[.slice (some ⟨p, off, none⟩) n cap] W fun e w' => ∃ a c, e = .returned (.slice a (allE Q n).length c) ∧ Below W.heap.size W w') := fun W hb =>
      (l5All_any p off n cap Q W (HQ.out.now hb) (HSb.out W hb) hn HA.out).mono (fun e w' ⟨v, he, hR, hb'⟩ => by
        obtain ⟨_, ⟨rfl, h0⟩ | ⟨g, cp, cur, rfl, _⟩⟩ := hR
        · exact ⟨none, 0, by rw [he, h0], hb'⟩
        · exact ⟨_, _, he, hb'⟩)
    by_cases h24 : 24 < (allE Q n).length
    · have hz : Hid (quadsC Q n = 2) := by show _ = _; unfold quadsC; rw [if_pos (by omega)]
      have h24' : (24 : Int) < ((allE Q n).length : Int) := by omega
      clear hlen
      go_enter Try.func21, Try.ntmps21
      go_wp2_with (go_at_call 24; refine (HL0.out _ (by (repeat (first | exact Below.refl _ _ | assumption | refine Below.drew ?_ | refine bl_alloc ?_ _ | refine bl_then ?_ (by assumption) | refine Below.setCell ?_ (by first | omega | (simp; done) | (simp; omega)) _ | refine bl_store ?_ ?_ _ _)))).mono ?_; rintro e w1 ⟨a1, c1, rfl, hb1⟩)
      go_ret
      exact ⟨ret_int hz.out.symm, by (repeat (first | exact Below.refl _ _ | assumption | refine Below.drew ?_ | refine bl_alloc ?_ _ | refine bl_then ?_ (by assumption) | refine Below.setCell ?_ (by first | omega | (simp; done) | (simp; omega)) _ | refine bl_store ?_ ?_ _ _))⟩
    · have hz : Hid (quadsC Q n = if scanC (oneC Q n) 0 n ≠ 0 then scanC (oneC Q n) 0 n else if entsC (esOf Q n).length (entAt (esOf Q n)) ≠ 0 then entsC (esOf Q n).length (entAt (esOf Q n)) else if oneT Q n = true then 0 else 8) := by show _ = _; unfold quadsC; rw [if_neg (by omega)]
      have h24' : ¬ (24 : Int) < ((allE Q n).length : Int) := by omega
      clear hlen h24
      go_enter Try.func21, Try.ntmps21
      go_upto_region 3 with (go_at_call 24; refine (HL0.out _ (by (repeat (first | exact Below.refl _ _ | assumption | refine Below.drew ?_ | refine bl_alloc ?_ _ | refine bl_then ?_ (by assumption) | refine Below.setCell ?_ (by first | omega | (simp; done) | (simp; omega)) _ | refine bl_store ?_ ?_ _ _)))).mono ?_; rintro e w1 ⟨a1, c1, rfl, hb1⟩)
      have HB1 : Hid (Below w.heap.size w w1) := hb1
      clear hb1 h24'
      go_wp2
      go_loopw [3] (fun i wr => ∃ k : Nat, k ≤ n ∧ i = .int .i64 (k : Int) ∧ (∀ j, j < k → oneC Q n j = 0) ∧ Below w.heap.size w wr) (fun i _ => n - (intOf i).toNat)
      case atStart => exact ⟨0, by omega, rfl, by omega, HB1.out⟩
      case round =>
        obtain ⟨k, hk, rfl, hall, hB⟩ := hrel
        have HAL : Hid (∀ j, j < k → oneC Q n j = 0) := hall
        have HB : Hid (Below w.heap.size w wr) := hB
        have HQr : Hid (QsAt wr wr.heap.size p off n Q) := ⟨Nat.lt_of_lt_of_le HQ.out.1 hB.size, fun i hi => ⟨((HQ.out.below hB).2 i hi).1, ((HQ.out.below hB).2 i hi).2.imp id (fun ⟨b, o, e, hl, hE⟩ => ⟨b, o, e, Nat.lt_of_lt_of_le hl hB.size, hE⟩)⟩⟩
        clear hall hB
        by_cases hlt : k < n
        · have hi1 : (k : Int) < (n : Int) := by omega
          have HC : Hid (Calls Try.prog 43 #[.slice (some ⟨p, off, none⟩) n cap, .int .i64 (k : Int)] wr fun e w' => e = .returned (.int .i64 (oneC Q n k)) ∧ Below wr.heap.size wr w') := l5One_any p off n cap k Q wr HQr.out hn hlt
          by_cases hc0 : oneC Q n k = 0
          · have HC0 : Hid (oneC Q n k = 0) := hc0
            rw [hc0] at HC
            clear hc0
            go_wp2_with (go_at_call 43; refine Calls.mono HC.out ?_; rintro e w2 ⟨rfl, hb2⟩)
            go_roundw
            case rel => exact ⟨k + 1, by omega, by go_num, fun j hj => by
                by_cases e : j = k
                · rw [e]; exact HC0.out
                · exact HAL.out j (by omega), bl_then HB.out hb2⟩
            case measure => simp [intOf]; omega
          · have hsc : scanC (oneC Q n) 0 n = oneC Q n k := scan_first (oneC Q n) n 0 k (fun j _ hj => HAL.out j hj) (by omega) (by omega) hc0
            have hz2 : Hid (quadsC Q n = oneC Q n k) := by show _ = _; rw [hz.out, hsc, if_pos hc0]
            obtain ⟨c, hcc⟩ : ∃ c, oneC Q n k = c := ⟨_, rfl⟩
            rw [hcc] at HC hz2 hc0
            clear hsc hcc hz
            go_wp2_with (go_at_call 43; refine Calls.mono HC.out ?_; rintro e w2 ⟨rfl, hb2⟩)
            go_ret
            exact ⟨ret_int hz2.out.symm, bl_then HB.out hb2⟩
        · have hi1 : ¬ (k : Int) < (n : Int) := by omega
          have hkn : k = n := by omega
          subst hkn
          have hsc : scanC (oneC Q k) 0 k = 0 := scan_none (oneC Q k) k 0 (fun j _ hj => HAL.out j (by omega))
          have hz2 : Hid (quadsC Q k = if entsC (esOf Q k).length (entAt (esOf Q k)) ≠ 0 then entsC (esOf Q k).length (entAt (esOf Q k)) else if oneT Q k = true then 0 else 8) := by show _ = _; rw [hz.out, hsc, if_neg (by simp)]
          have HBD : Hid (∀ i, i < k → badAt Q k i = false) := fun i hi => oneC_bad (HAL.out i hi)
          clear hsc hz HAL
          go_wp2_with fail
          refine (l5All_any p off k cap Q wr HQr.out (HSb.out wr HB.out) hn HA.out).mono ?_
          rintro e w2 ⟨v, rfl, hR, hb2⟩
          have HR : Hid (w2.ownsRow wr.heap.size 69 5 v (esOf Q k).length (entsCs (esOf Q k))) := by show World.ownsRow _ _ _ _ _ _ _; rw [esOf_len]; exact hR
          have HB2 : Hid (Below w.heap.size w w2) := bl_then HB.out hb2
          have HQ2 : Hid (QsAt w2 w2.heap.size p off k Q) := ⟨Nat.lt_of_lt_of_le HQr.out.1 hb2.size, fun i hi => ⟨((HQr.out.below hb2).2 i hi).1, ((HQr.out.below hb2).2 i hi).2.imp id (fun ⟨b, o, e, hl, hE⟩ => ⟨b, o, e, Nat.lt_of_lt_of_le hl hb2.size, hE⟩)⟩⟩
          clear hR hb2 HQr
          have HEF : Hid (Calls Try.prog 44 #[v] w2 fun e w' => e = .returned (.int .i64 (entsC (esOf Q k).length (entAt (esOf Q k)))) ∧ Below w2.heap.size w2 w') := l5Fault_row _ v (esOf Q k) w2 HR.out (by rw [esOf_len]; exact HA.out)
          clear HR
          generalize entsC (esOf Q k).length (entAt (esOf Q k)) = c at *
          by_cases hc0 : c = 0
          · subst hc0
            have hz3 : Hid (quadsC Q k = if oneT Q k = true then 0 else 8) := by show _ = _; rw [hz2.out, if_neg (by simp)]
            clear hz2
            go_wp2_with fail
            refine Calls.mono HEF.out ?_
            rintro e w3 ⟨rfl, hb3⟩
            have HB3 : Hid (Below w.heap.size w w3) := bl_then HB2.out hb3
            have HIT : Hid (Calls Try.prog 45 #[.slice (some ⟨p, off, none⟩) k cap] w3 fun e w' => e = .returned (.bool (oneT Q k)) ∧ Below w3.heap.size w3 w') :=
              l5Kids_any p off k cap Q w3 ⟨Nat.lt_of_lt_of_le HQ2.out.1 hb3.size, fun i hi => ⟨((HQ2.out.below hb3).2 i hi).1, ((HQ2.out.below hb3).2 i hi).2.imp id (fun ⟨b, o, e, hl, hE⟩ => ⟨b, o, e, Nat.lt_of_lt_of_le hl hb3.size, hE⟩)⟩⟩ hn2 hn0 HBD.out
            clear hb3
            cases ho : oneT Q k
            · rw [ho] at HIT hz3
              go_wp2_with (go_at_call 45; refine Calls.mono HIT.out ?_; rintro e w4 ⟨rfl, hb4⟩)
              go_ret
              exact ⟨ret_int (by rw [hz3.out]; rfl), bl_then HB3.out hb4⟩
            · rw [ho] at HIT hz3
              go_wp2_with (go_at_call 45; refine Calls.mono HIT.out ?_; rintro e w4 ⟨rfl, hb4⟩)
              go_ret
              exact ⟨ret_int (by rw [hz3.out]; rfl), bl_then HB3.out hb4⟩
          · have hz3 : Hid (quadsC Q k = c) := by show _ = _; rw [hz2.out, if_pos hc0]
            clear hz2
            go_wp2_with (go_at_call 44; refine Calls.mono HEF.out ?_; rintro e w3 ⟨rfl, hb3⟩)
            go_ret
            exact ⟨ret_int hz3.out.symm, bl_then HB2.out hb3⟩
end Go.Proofs.Ytjnhaigmfjndhaa
