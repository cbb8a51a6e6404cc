/- Several texts in one. -/
import Derived.Test.YtcbpaockahkakaaVReadTile31
import Derived.Test.YtcbpaockahkakaaVReadTile33
import Derived.Test.YtcbpaockahkakaaVReadTile3
import Derived.Test.YtcbpaockahkakaaVReadTile29

/- A list of features that was read, handed to the model's l2Many, l6Ordered, l6Pack. -/

namespace Go.Proofs.Ytcbpaockahkakaa
open Go.RowKit
set_option linter.unusedSimpArgs false
set_option linter.unusedVariables false

theorem fL_fx2 {f g : Feat} (h : f.same g) : fL f = fL g := by
  obtain ⟨h1, h2, h3, h4, h5, h6, h7, h8, h9⟩ := h
  unfold fL
  rw [h1, h2, h3, h4, h5, h6, h7, h8, h9]
theorem catL_fx2 {G H : Nat → Feat} {n : Nat} (h : ∀ i, i < n → (G i).same (H i)) : ∀ k, k ≤ n → catL G k = catL H k
  | 0, _ => rfl
  | k + 1, hk => by rw [catL, catL, catL_fx2 h k (by omega), fL_fx2 (h k (by omega))]
/-- Such a row lies in a block. -/
theorem FxRow.fsAt {base g c : Nat} {w : World} {fs : List Fx} {H : Nat → Feat} (h : FxRow base w (.slice (some ⟨g, 0, none⟩) fs.length c) fs H) : FsAt w g 0 fs.length H := by
  obtain ⟨a, cap, hv, hc, h0 | ⟨b, rfl, hb, hF⟩⟩ := h.is
  · intro i hi; omega
  · injection hv with e1 e2 e3
    injection e1 with e1
    injection e1 with e1
    subst e1
    exact hF
theorem fxC_same {base : Nat} {w : World} {v : Value} {fs : List Fx} {H : Nat → Feat} (h : FxRow base w v fs H) : featsC fs.length H = fxC fs := featsC_same h.same
theorem small_same {base : Nat} {w : World} {v : Value} {fs : List Fx} {H : Nat → Feat} (h : FxRow base w v fs H) (hs : SmallFs fs.length (fxG fs)) : SmallFs fs.length H := ⟨hs.1, fun i hi => by
  have h1 := h.same i hi
  have h2 := hs.2 i hi
  rw [h1.2.2.2.2.1, h1.2.2.2.2.2.2.2.1]
  exact h2⟩
/-- Features without a fault are small. -/
theorem small_none {fs : List Fx} (hl : fs.length ≤ 1048576) (h : ∀ f ∈ fs, fx1 f = 0) : SmallFs fs.length (fxG fs) := ⟨hl, fun i hi => by
  have hm : fxAt fs i ∈ fs := by
    have hg : fxAt fs i = fs[i] := by unfold fxAt; rw [List.getD_eq_getElem?_getD, List.getElem?_eq_getElem hi]; rfl
    rw [hg]
    exact List.getElem_mem hi
  obtain ⟨i1, i2, i3, i4, i5, j1, j2, j3, j4, j5, b1, b2, b3, b4, b5, l0, l12, hN, hl6⟩ := feat_ok (h _ hm)
  exact ⟨by show (fxAt fs i).pts.length ≤ _; omega, by show (fxAt fs i).lab.size ≤ _; omega⟩⟩
theorem FxRow.many {base g c : Nat} {w : World} {fs : List Fx} {H : Nat → Feat} (h : FxRow base w (.slice (some ⟨g, 0, none⟩) fs.length c) fs H) (hg : g < w.heap.size) (hs : SmallFs fs.length (fxG fs)) :
    Calls Try.prog 43 #[.slice (some ⟨g, 0, none⟩) fs.length c] w fun e w' => e = .returned (.int .i64 (fxC fs)) ∧ Below w.heap.size w w' := by
  rw [← fxC_same h]
  exact l2Many_any g fs.length c H w h.fsAt hg (small_same h hs)
theorem FxRow.ordered {base g c : Nat} {w : World} {fs : List Fx} {H : Nat → Feat} (h : FxRow base w (.slice (some ⟨g, 0, none⟩) fs.length c) fs H) (hg : g < w.heap.size) (hc : fxC fs = 0) :
    Calls Try.prog 45 #[.slice (some ⟨g, 0, none⟩) fs.length c] w fun e w' => e = .returned (.bool (fxO fs)) ∧ Below w.heap.size w w' := by
  have h12 := (fx_none hc).1
  have e : fxO fs = ordS fs.length H := by
    have h1 : fxO fs = ordI fs.length H := (ordI_fx h.same).symm
    rw [h1]
    refine ord_same ?_
    have hz : featsC fs.length H = 0 := by rw [fxC_same h]; exact hc
    exact (featsC_ok hz).2.1
  rw [e]
  exact l6Ordered_any g fs.length c H w h.fsAt hg (by omega)
theorem FxRow.pack {base g c : Nat} {w : World} {fs : List Fx} {H : Nat → Feat} (h : FxRow base w (.slice (some ⟨g, 0, none⟩) fs.length c) fs H) (hg : g < w.heap.size) (hc : fxC fs = 0) :
    Calls Try.prog 29 #[.slice (some ⟨g, 0, none⟩) fs.length c] w fun e w' => ∃ v, e = .returned v ∧ RowB w.heap.size w' v (endL (datL fs.length (fxG fs))) ∧ Below w.heap.size w w' := by
  have h12 := (fx_none hc).1
  have e : datL fs.length (fxG fs) = datL fs.length H := by unfold datL; rw [catL_fx2 h.same fs.length (Nat.le_refl _)]
  have hz : featsC fs.length H = 0 := by rw [fxC_same h]; exact hc
  rw [e]
  exact l6Pack_any g fs.length c H w h.fsAt hg h12 (featsC_ok hz).2.2
/-- Bytes that are equal as texts are equal. -/
theorem strOfNums_inj {l m : List Int} (hl : Byt l) (hm : Byt m) (h : strOfNums l = strOfNums m) : l = m := by
  rw [← labL_nums hl, ← labL_nums hm, h]
/-- The bytes as a text are the text of l just where the bytes are l. -/
theorem text_whole {Z : Nat → Int} {n : Nat} {l : List Int} (hz : ∀ i, 0 ≤ Z i ∧ Z i ≤ 255) (hl : Byt l) : strOfNums l = strOfNums ((List.range n).map Z) ↔ Whole Z n l := by
  have hb : Byt ((List.range n).map Z) := fun x hx => by
    obtain ⟨i, _, rfl⟩ := List.mem_map.1 hx
    exact hz i
  constructor
  · intro h
    have e := strOfNums_inj hl hb h
    subst e
    refine ⟨by simp, fun j hj => ?_⟩
    have hj' : j < n := by simpa using hj
    simp [zz, List.getD, hj']
  · rintro ⟨h1, h2⟩
    congr 1
    apply List.ext_getElem
    · simp [h1]
    · intro i p q
      have h3 := h2 i p
      simp only [Nat.add_zero] at h3
      simp only [List.getElem_map, List.getElem_range]
      rw [h3]
      simp [zz, List.getD, p]
end Go.Proofs.Ytcbpaockahkakaa
/- A number is read from bytes: the model's way. -/

namespace Go.Proofs.Ytcbpaockahkakaa
open Go.RowKit
set_option linter.unusedSimpArgs false
set_option linter.unusedVariables false
set_option maxRecDepth 100000

/-- What l6Read tells. -/
def rdN (Z : Nat → Int) (n : Nat) : Nat × Nat := (rd Z n).getD (0, 0)
set_option maxHeartbeats 4000000 in
theorem l6Read_any (a : Option Addr) (n cap : Nat) (Z : Nat → Int) (w : World) (hp : IsBytes w a n Z) (hr : ∀ i, 0 ≤ Z i ∧ Z i ≤ 255) (hmax : n ≤ 1048576) :
    Calls Try.prog 90 #[.slice a n cap] w fun e w' => e = .returned (.tuple #[.int .i64 ((rdN Z n).1 : Int), .int .i64 ((rdN Z n).2 : Int)]) ∧ w = w' := by
  have HP : Hid (IsBytes w a n Z) := hp
  have HR : Hid (∀ i, 0 ≤ Z i ∧ Z i ≤ 255) := hr
  clear hp hr
  go_enter Try.func90, Try.ntmps90
  go_wp2
  go_loopw [4, 5, 6] (fun x u i wr => ∃ (k f A U : Nat), i = .int .i64 (k : Int) ∧ x = .int .i64 (A : Int) ∧ u = .int .i64 (U : Int) ∧ Hid (k + f = 6 ∧ 128 ^ k = U ∧ A < U ∧ rdFrom Z n f k A = rd Z n) ∧ w = wr) (fun _ _ i _ => 6 - (intOf i).toNat)
  case atStart => exact ⟨0, 6, 0, 1, rfl, rfl, rfl, ⟨rfl, rfl, by omega, rfl⟩, rfl⟩
  case round =>
    obtain ⟨k, f, A, U, rfl, rfl, rfl, HK, rfl⟩ := hrel
    by_cases hlt : k < n
    · by_cases hk6 : k < 6
      · obtain ⟨hkf, hU, hA, hrd⟩ := HK.out
        obtain ⟨f, rfl⟩ : ∃ g, f = g + 1 := ⟨f - 1, by omega⟩
        rcases HP.out with h0 | ⟨b, off, rfl, hbl, hpt⟩
        · omega
        have hx := hpt k hlt
        obtain ⟨z1, z2⟩ := HR.out k
        obtain ⟨z, hz⟩ : ∃ z : Nat, Z k = (z : Int) := ⟨(Z k).toNat, by omega⟩
        rw [hz] at hx z1 z2
        obtain ⟨u1, u2⟩ := pow_bd (k := k) (by omega)
        rw [hU] at u1 u2
        obtain ⟨p1, p2⟩ := part_bd (z := z) u2
        obtain ⟨P, hP⟩ : ∃ P, z % 128 * U = P := ⟨_, rfl⟩
        rw [hP] at p1 p2
        have hPU : Hid (z % 128 * 128 ^ k = P) := by show _ = _; rw [hU]; exact hP
        have e1 : IntKind.u8.wrap ((z : Int) % 128) = (z : Int) % 128 := by rw [IntKind.wrap_u8]; omega
        have e2 : (z : Int) % 128 * (U : Int) = (P : Int) := by rw [← hP]; simp
        have e3 : (z : Int).tmod 128 = (z : Int) % 128 := Int.tmod_eq_emod_of_nonneg (by omega)
        have HM : Hid (rdFrom Z n (f + 1) k A = rd Z n) := hrd
        have HZ : Hid (Z k = (z : Int)) := hz
        have HU : Hid (128 ^ (k + 1) = 128 * U) := by show _ = _; rw [Nat.pow_succ, hU, Nat.mul_comm]
        have hi : (k : Int) < (n : Int) := by omega
        have hi6 : (k : Int) < 6 := by omega
        have hi0 : (0 : Int) ≤ (k : Int) := by omega
        clear hpt hU hP hrd hz HK
        by_cases h8 : z < 128
        · have h8' : (z : Int) < 128 := by omega
          have HL : Hid (rd Z n = if (0 < k ∧ z = 0) ∨ 1099511627776 < A + P then none else some (A + P, k + 1)) := by show _ = _; rw [← HM.out, rdFrom_last hlt HZ.out h8 hPU.out]
          by_cases hkz : 0 < k ∧ z = 0
          · have HN : Hid (rdN Z n = (0, 0)) := by show _ = _; unfold rdN; rw [HL.out, if_pos (.inl hkz)]; rfl
            obtain ⟨hk0, rfl⟩ := hkz
            have hk0' : (0 : Int) < (k : Int) := by omega
            clear HL HM HZ HU hPU
            go_wp2
            exact bodyPost_ret (v := .tuple #[.int .i64 0, .int .i64 0]) (by simp [results, Try.results90, go_sem]) rfl ⟨by rw [HN.out]; rfl, rfl⟩
          · by_cases h40 : 1099511627776 < A + P
            · have HN : Hid (rdN Z n = (0, 0)) := by show _ = _; unfold rdN; rw [HL.out, if_pos (.inr h40)]; rfl
              have hk1 : 0 < k := by
                rcases Nat.eq_zero_or_pos k with h | h
                · subst h; have := hPU.out; simp at this; omega
                · exact h
              have hz0 : ¬ z = 0 := fun h => hkz ⟨hk1, h⟩
              have hz0' : ¬ (z : Int) = 0 := by omega
              have hk0' : (0 : Int) < (k : Int) := by omega
              have hin : inB ((A : Int) + (P : Int)) 0 1099511627776 = false := by simp [inB]; omega
              clear HL HM HZ HU hPU hkz
              go_wp2_with (go_at_call 105; refine (l6Top_any _ _).mono ?_; rintro e w' ⟨rfl, rfl⟩)
              exact bodyPost_ret (v := .tuple #[.int .i64 0, .int .i64 0]) (by simp [results, Try.results90, go_sem]) rfl ⟨by rw [HN.out]; rfl, rfl⟩
            · have HN : Hid (rdN Z n = (A + P, k + 1)) := by show _ = _; unfold rdN; rw [HL.out, if_neg (by omega)]; rfl
              have hin : inB ((A : Int) + (P : Int)) 0 1099511627776 = true := by simp [inB]; omega
              by_cases hk1 : 0 < k
              · have hz0 : ¬ z = 0 := fun h => hkz ⟨hk1, h⟩
                have hz0' : ¬ (z : Int) = 0 := by omega
                have hk0' : (0 : Int) < (k : Int) := by omega
                clear HL HM HZ HU hPU hkz
                go_wp2_with (go_at_call 105; refine (l6Top_any _ _).mono ?_; rintro e w' ⟨rfl, rfl⟩)
                exact bodyPost_ret (v := .tuple #[.int .i64 ((A : Int) + (P : Int)), .int .i64 ((k : Int) + 1)]) (by simp [results, Try.results90, go_sem]) rfl ⟨by rw [HN.out]; simp, rfl⟩
              · have hk0' : ¬ (0 : Int) < (k : Int) := by omega
                clear HL HM HZ HU hPU hkz
                go_wp2_with (go_at_call 105; refine (l6Top_any _ _).mono ?_; rintro e w' ⟨rfl, rfl⟩)
                exact bodyPost_ret (v := .tuple #[.int .i64 ((A : Int) + (P : Int)), .int .i64 ((k : Int) + 1)]) (by simp [results, Try.results90, go_sem]) rfl ⟨by rw [HN.out]; simp, rfl⟩
        · have h8' : ¬ (z : Int) < 128 := by omega
          go_wp2
          go_roundw
          case rel => exact ⟨k + 1, f, A + P, 128 * U, by go_num, by go_num, by go_num, ⟨by omega, HU.out, by omega, by rw [← HM.out, rdFrom_more hlt HZ.out h8 hPU.out]⟩, by first | rfl | trivial⟩
          case measure => simp [intOf]; omega
      · have hk6' : ¬ (k : Int) < 6 := by omega
        have hi : (k : Int) < (n : Int) := by omega
        have HN : Hid (rdN Z n = (0, 0)) := by
          show _ = _
          obtain ⟨hkf, hU, hA, hrd⟩ := HK.out
          obtain rfl : f = 0 := by omega
          unfold rdN
          rw [← hrd]
          rfl
        clear HK
        go_wp2
        exact bodyPost_ret (v := .tuple #[.int .i64 0, .int .i64 0]) (by simp [results, Try.results90, go_sem]) rfl ⟨by rw [HN.out]; rfl, rfl⟩
    · have hi : ¬ (k : Int) < (n : Int) := by omega
      have HN : Hid (rdN Z n = (0, 0)) := by
        show _ = _
        obtain ⟨hkf, hU, hA, hrd⟩ := HK.out
        unfold rdN
        rw [← hrd, rdFrom_end _ _ _ _ _ hlt]
        rfl
      clear HK
      go_wp2
      exact bodyPost_ret (v := .tuple #[.int .i64 0, .int .i64 0]) (by simp [results, Try.results90, go_sem]) rfl ⟨by rw [HN.out]; rfl, rfl⟩
/-- The answer of ReadNumber. -/
def rdV (Z : Nat → Int) (n : Nat) : Value := match rd Z n with
  | none => .agg #[.int .i64 5, .int .i64 0, .int .i64 0]
  | some x => .agg #[.int .i64 0, .int .i64 (x.1 : Int), .int .i64 (x.2 : Int)]
end Go.Proofs.Ytcbpaockahkakaa
/- The model's reader: the next number. -/

namespace Go.Proofs.Ytcbpaockahkakaa
open Go.RowKit
set_option linter.unusedSimpArgs false
set_option linter.unusedVariables false
set_option maxRecDepth 100000

/-- Block p holds a reader: n bytes at b, off; how many were read; whether something was wrong. -/
def RdAt (w : World) (p b off n cap : Nat) (Z : Nat → Int) (o : Nat) (bad : Bool) : Prop :=
  w.heap[p]? = some (Obj.cells #[.slice (some ⟨b, off, none⟩) n cap, .int .i64 (o : Int), .bool bad] 101 (0, 0)) ∧ b ≠ p ∧ b < w.heap.size ∧ BsAt w b off n Z ∧ n ≤ cap ∧ o ≤ n
set_option maxHeartbeats 2000000 in
theorem l6Next_bad (p b off n cap : Nat) (Z : Nat → Int) (o : Nat) (w : World) (h : RdAt w p b off n cap Z o true) :
    Calls Try.prog 67 #[.pointer (some ⟨p, 0, none⟩)] w fun e w' => e = .returned (.int .i64 0) ∧ w = w' := by
  obtain ⟨h0, _⟩ := h
  have c2 : w.cell? ⟨p, 2, none⟩ = some (.bool true) := by simp [World.cell?, h0]
  clear h0
  go_enter Try.func67, Try.ntmps67
  go_wp2
  go_ret
  exact ⟨rfl, rfl⟩
theorem RdAt.cells {w : World} {p b off n cap : Nat} {Z : Nat → Int} {o : Nat} {bad : Bool} (h : RdAt w p b off n cap Z o bad) :
    w.cell? ⟨p, 0, none⟩ = some (.slice (some ⟨b, off, none⟩) n cap) ∧ w.cell? ⟨p, 1, none⟩ = some (.int .i64 (o : Int)) ∧ w.cell? ⟨p, 2, none⟩ = some (.bool bad) ∧ ∀ j, w.frozen? ⟨p, j, none⟩ = false := by
  obtain ⟨h0, _⟩ := h
  refine ⟨?_, ?_, ?_, fun j => ?_⟩ <;> simp [World.cell?, World.frozen?, h0]
theorem RdAt.below {w w1 : World} {p b off n cap : Nat} {Z : Nat → Int} {o : Nat} {bad : Bool} (h : RdAt w p b off n cap Z o bad) (hb : Below w.heap.size w w1) : RdAt w1 p b off n cap Z o bad := by
  obtain ⟨h0, h1, h2, h3, h4, h5⟩ := h
  exact ⟨(hb.block p (lt_of_heap h0)).trans h0, h1, Nat.lt_of_lt_of_le h2 hb.size, fun i hi => (hb.cell (p := ⟨b, off + i, none⟩) h2).trans (h3 i hi), h4, h5⟩
theorem RdAt.at {w : World} {p b off n cap : Nat} {Z : Nat → Int} {o : Nat} {bad : Bool} (h : RdAt w p b off n cap Z o bad) (r : Nat) (hr : r ≤ n) : RdAt (w.setCell ⟨p, 1, none⟩ (.int .i64 (r : Int))) p b off n cap Z r bad := by
  obtain ⟨h0, h1, h2, h3, h4, h5⟩ := h
  refine ⟨by simpa using heap_setCell_same w p 1 _ 101 (.int .i64 (r : Int)) h0, h1, by simpa [World.setCell] using h2, fun i hi => ?_, h4, hr⟩
  rw [set1_other (fun e => h1 (by injection e with e; exact e.symm))]
  exact h3 i hi
theorem RdAt.wrong {w : World} {p b off n cap : Nat} {Z : Nat → Int} {o : Nat} {bad : Bool} (h : RdAt w p b off n cap Z o bad) : RdAt (w.setCell ⟨p, 2, none⟩ (.bool true)) p b off n cap Z o true := by
  obtain ⟨h0, h1, h2, h3, h4, h5⟩ := h
  refine ⟨by simpa using heap_setCell_same w p 2 _ 101 (.bool true) h0, h1, by simpa [World.setCell] using h2, fun i hi => ?_, h4, h5⟩
  rw [set1_other (fun e => h1 (by injection e with e; exact e.symm))]
  exact h3 i hi
/-- What the next number tells. -/
def NextP (p b off n cap : Nat) (Z : Nat → Int) (o : Nat) (w : World) (e : Ending) (w' : World) : Prop :=
  match rd (fun i => Z (i + o)) (n - o) with
  | none => e = .returned (.int .i64 0) ∧ RdAt w' p b off n cap Z o true ∧ Keeps p w w'
  | some x => e = .returned (.int .i64 (x.1 : Int)) ∧ RdAt w' p b off n cap Z (o + x.2) false ∧ Keeps p w w'
end Go.Proofs.Ytcbpaockahkakaa
