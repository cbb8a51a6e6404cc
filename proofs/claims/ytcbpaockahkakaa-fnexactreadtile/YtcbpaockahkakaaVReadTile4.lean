/- Several texts in one. -/
import Derived.Test.YtcbpaockahkakaaVReadTile3
import Derived.Laws.CopyOwn
import Derived.MapKept
import Derived.Deep.DeepMust
import Derived.Test.YtcbpaockahkakaaVReadTile2

/- What is left of bytes that are read: bytes are taken from its beginning. -/

namespace Go.Proofs.Ytcbpaockahkakaa
open Go.RowKit
set_option linter.unusedSimpArgs false
set_option linter.unusedVariables false
set_option maxRecDepth 100000

/-- The slice a, n, cap: its bytes lie below block B. -/
def RestB (w : World) (B : Nat) (a : Option Addr) (n : Nat) (Z : Nat → Int) : Prop := n = 0 ∨ ∃ b off, a = some ⟨b, off, none⟩ ∧ b < B ∧ BsAt w b off n Z
/-- Block p holds what is left: n bytes below block B. -/
def UpAt (w : World) (p B n : Nat) (Z : Nat → Int) : Prop :=
  ∃ a cap, w.cell? ⟨p, 0, none⟩ = some (.slice a n cap) ∧ w.frozen? ⟨p, 0, none⟩ = false ∧ n ≤ cap ∧ RestB w B a n Z
/-- A panic that recover finds. -/
def Pan (e : Ending) : Prop := ∃ (u : TypeId) (pv : Value), e = .panicked [{ v := .iface u pv, recovered := false }]
theorem RestB.keeps {w w' : World} {p B n : Nat} {a : Option Addr} {Z : Nat → Int} (h : RestB w B a n Z) (hk : Keeps p w w') (hB : B ≤ p) (hl : B ≤ w.heap.size) : RestB w' B a n Z := by
  rcases h with h | ⟨b, off, e, hb, hz⟩
  · exact .inl h
  · exact .inr ⟨b, off, e, hb, fun i hi => (hk.cell (p := ⟨b, off + i, none⟩) (show b < _ by omega) (show b ≠ p by omega)).trans (hz i hi)⟩
theorem RestB.cut {w : World} {B n cap : Nat} {b off : Nat} {Z : Nat → Int} (c : Nat) (hc : c ≤ n) (hcap : n ≤ cap) (h : b < B ∧ BsAt w b off n Z) :
    RestB w B (if cap = c then some ⟨b, off, none⟩ else some ⟨b, off + c, none⟩) (n - c) (fun i => Z (i + c)) := by
  by_cases e : cap = c
  · exact .inl (by omega)
  · rw [if_neg e]
    refine .inr ⟨b, off + c, rfl, h.1, fun i hi => ?_⟩
    have := h.2 (i + c) (by omega)
    rwa [show off + c + i = off + (i + c) by omega]

theorem take_none (p B n c : Nat) (Z : Nat → Int) (w : World) (h : UpAt w p B n Z) (hc : n < c) (hmax : n ≤ 1048576) (hcm : c ≤ 1048576) :
    Calls Try.prog 64 #[.pointer (some ⟨p, 0, none⟩), .int .u64 (c : Int)] w fun e w' => Pan e ∧ w = w' := by
  obtain ⟨a, cap, h0, h1, h2, h3⟩ := h
  have e1 : IntKind.u64.wrap (n : Int) = (n : Int) := by rw [IntKind.wrap_u64]; omega
  have hlt : (n : Int) < (c : Int) := by omega
  clear h3
  go_enter Try.func64, Try.ntmps64
  go_wp2
  exact ⟨rfl, ⟨_, _, rfl⟩, rfl⟩
set_option maxHeartbeats 2000000 in
theorem take_some (p B n c : Nat) (Z : Nat → Int) (w : World) (h : UpAt w p B n Z) (hB : B ≤ p) (hp : p < w.heap.size) (hc : c ≤ n) (hc0 : 0 < c) (hmax : n ≤ 1048576) :
    Calls Try.prog 64 #[.pointer (some ⟨p, 0, none⟩), .int .u64 (c : Int)] w fun e w' => ∃ g, e = .returned (.slice (some ⟨g, 0, none⟩) c c) ∧ w.heap.size ≤ g ∧ g < w'.heap.size ∧ BsAt w' g 0 c Z ∧ UpAt w' p B (n - c) (fun i => Z (i + c)) ∧ Keeps p w w' := by
  obtain ⟨a, cap, h0, h1, h2, h3⟩ := h
  rcases h3 with h3 | ⟨b, off, rfl, hb, hz⟩
  · omega
  have e1 : IntKind.u64.wrap (n : Int) = (n : Int) := by rw [IntKind.wrap_u64]; omega
  have hlt : ¬ (n : Int) < (c : Int) := by omega
  have hc' : (c : Int) ≤ (n : Int) := by omega
  have hc0' : (0 : Int) ≤ (c : Int) := by omega
  have hmk : ∀ w : World, (Instr.makeSlice 22 (.int .u64 (c : Int)) (.int .u64 (c : Int))).run Try.prog w = .ok (.slice (some ⟨w.heap.size, 0, none⟩) c c) (w.alloc (.cells (madeCells #[.int .u8 0] c) 5)) := fun w => by
    obtain ⟨i, hi, hz, hs, hb⟩ := info_parts info_u8
    have hr := run_make (P := Try.prog) w 22 5 i _ Try.underlying22 hi hz .u64 .u64 (c : Int) (c : Int) (by omega) (Int.le_refl _) (by rw [hb]; omega) (by omega)
    simp only [Int.toNat_natCast, hs, Nat.mul_one] at hr
    exact hr
  have HZ : Hid (BsAt w b off n Z) := hz
  obtain ⟨X, hX⟩ : ∃ X : List Value, X = (List.range c).map fun i => .int .u8 (Z i) := ⟨_, rfl⟩
  have HX : Hid (X = (List.range c).map fun i => .int .u8 (Z i)) := hX
  have hXl : X.length = c := by rw [hX]; simp
  have hsz : (Try.prog.info? 5).map (·.size) = some 1 := by kernel_rfl
  have HC : Hid (∀ j v, X[j]? = some v → w.cell? ((⟨b, off, none⟩ : Addr).add j) = some v) := fun j v hj => by
    rw [hX] at hj
    simp at hj
    obtain ⟨j', h1, h2⟩ := hj
    obtain ⟨hj1, rfl⟩ : j < c ∧ j = j' := by
      rw [List.getElem?_eq_some_iff] at h1
      obtain ⟨h3, h4⟩ := h1
      simp at h3 h4
      exact ⟨h3, h4⟩
    subst h2
    have e : (⟨b, off, none⟩ : Addr).add j = ⟨b, off + j, none⟩ := by
      unfold Addr.add
      by_cases h : j = 0 <;> simp [h]
    rw [e]
    exact hz j (by omega)
  have HO : Hid (∀ v ∈ X, v.oneCell' = true) := fun v hv => by
    rw [hX] at hv
    simp at hv
    obtain ⟨i, _, rfl⟩ := hv
    rfl
  obtain ⟨M, hM⟩ : ∃ M : List Value, (madeCells #[.int .u8 0] c).toList = M := ⟨_, rfl⟩
  have hMl : M.length = c := by rw [← hM]; simpa using size_madeCells #[.int .u8 0] c
  have hM2 : madeCells #[.int .u8 0] c = M.toArray := by rw [← hM]
  rw [hM2] at hmk
  clear hz hX hM hM2
  obtain ⟨Wc, hcp, HG, hBc⟩ : ∃ Wc, (Builtin.copy_ #[22, 22] 3 #[.slice (some ⟨w.heap.size, 0, none⟩) c c, .slice (some ⟨b, off, none⟩) n cap]).run Try.prog (w.alloc (.cells M.toArray 5)) = .ok (.int .i64 (c : Int)) Wc ∧ Hid (Wc.heap[w.heap.size]? = some (.cells X.toArray 5 (0, 0))) ∧ Below w.heap.size w Wc := by
    have hg : (w.alloc (.cells M.toArray 5)).heap[w.heap.size]? = some (.cells M.toArray 5 (0, 0)) := (MapKept.heap_alloc w (.cells M.toArray 5)).1
    have hba : Below w.heap.size w (w.alloc (.cells M.toArray 5)) := by (repeat (first | exact Below.refl _ _ | assumption | refine Below.drew ?_ | refine bl_alloc ?_ _ | refine bl_then ?_ (by assumption) | refine Below.setCell ?_ (by first | omega | (simp; done) | (simp; omega)) _ | refine bl_store ?_ ?_ _ _))
    have hr := run_copy_row (P := Try.prog) (w.alloc (.cells M.toArray 5)) 22 22 3 5 w.heap.size 0 c c ⟨b, off, none⟩ n cap M.toArray 5 X Try.underlying22 hsz hg (by rw [hXl]; exact (Nat.min_eq_right hc).symm) (fun j v hj => bl_cellB hba (HC.out j v hj)) (by simp [hXl, hMl]) HO.out
    have e : (M.toArray.toList.take 0 ++ X ++ M.toArray.toList.drop (0 + X.length)).toArray = X.toArray := by
      simp only [List.take_zero, List.nil_append, Nat.zero_add]
      rw [List.drop_eq_nil_of_le (by simp [hXl, hMl]), List.append_nil]
    rw [e] at hr
    refine ⟨_, by rw [hr, hXl]; rfl, setRow_heap _ _ _ _ _ _ hg, below_setRow hba (Nat.le_refl _) _⟩
  have hlc : w.heap.size < Wc.heap.size := by
    rcases Nat.lt_or_ge w.heap.size Wc.heap.size with h | h
    · exact h
    · have := HG.out; rw [Array.getElem?_eq_none h] at this; cases this
  have k0 : Wc.cell? ⟨p, 0, none⟩ = some (.slice (some ⟨b, off, none⟩) n cap) := (hBc.cell (p := ⟨p, 0, none⟩) hp).trans h0
  have k1 : Wc.frozen? ⟨p, 0, none⟩ = false := (hBc.frozen (p := ⟨p, 0, none⟩) hp).trans h1
  have HBc : Hid (Below w.heap.size w Wc) := hBc
  clear hBc HC HO
  go_enter Try.func64, Try.ntmps64
  have fin : Hid (∀ a' cap', n - c ≤ cap' → RestB Wc B a' (n - c) (fun i => Z (i + c)) → ∃ g, Ending.returned (.slice (some ⟨w.heap.size, 0, none⟩) c c) = .returned (.slice (some ⟨g, 0, none⟩) c c) ∧ w.heap.size ≤ g ∧ g < (Wc.setCell ⟨p, 0, none⟩ (.slice a' (n - c) cap')).heap.size ∧ BsAt (Wc.setCell ⟨p, 0, none⟩ (.slice a' (n - c) cap')) g 0 c Z ∧ UpAt (Wc.setCell ⟨p, 0, none⟩ (.slice a' (n - c) cap')) p B (n - c) (fun i => Z (i + c)) ∧ Keeps p w (Wc.setCell ⟨p, 0, none⟩ (.slice a' (n - c) cap'))) := fun a' cap' hcap' hR => by
    refine ⟨w.heap.size, rfl, Nat.le_refl _, by simpa using hlc, fun i hi => ?_, ⟨a', cap', World.cell?_setCell_same _ _ _ k0, by rw [World.frozen?_setCell]; exact k1, hcap', hR.keeps ((Keeps.refl p Wc).set 0 _) hB (by omega)⟩, (Keeps.of_below HBc.out).set 0 _⟩
    rw [World.cell?_setCell_other]
    · have := HG.out
      simp only [World.cell?, this, Nat.zero_add]
      rw [HX.out]
      simp [hi]
    · simp <;> omega
  go_wp2
  · go_ret
    exact fin.out _ _ (by omega) (.inl (by omega))
  · go_ret
    refine fin.out _ _ (by omega) ?_
    have h3 := RestB.cut (w := Wc) (B := B) (n := n) (cap := cap) (b := b) (off := off) (Z := Z) c hc h2 ⟨hb, HZ.out.below HBc.out (by omega)⟩
    rwa [if_neg (by assumption)] at h3
end Go.Proofs.Ytcbpaockahkakaa
/- A number is read from what is left of bytes: the program's way. -/

namespace Go.Proofs.Ytcbpaockahkakaa
open Go.RowKit
set_option linter.unusedSimpArgs false
set_option linter.unusedVariables false
set_option maxRecDepth 100000

theorem UpAt.keeps {w w' : World} {p B n q : Nat} {Z : Nat → Int} (h : UpAt w p B n Z) (hk : Keeps q w w') (hpq : p ≠ q) (hB : B ≤ q) (hp : p < w.heap.size) (hl : B ≤ w.heap.size) : UpAt w' p B n Z := by
  obtain ⟨a, cap, h0, h1, h2, h3⟩ := h
  exact ⟨a, cap, (hk.cell (p := ⟨p, 0, none⟩) hp hpq).trans h0, (hk.frozen (p := ⟨p, 0, none⟩) hp hpq).trans h1, h2, h3.keeps hk hB hl⟩
theorem UpAt.same {w : World} {p B n m : Nat} {Z Y : Nat → Int} (h : UpAt w p B n Z) (hn : n = m) (hZ : ∀ i, i < n → Z i = Y i) : UpAt w p B m Y := by
  subst hn
  obtain ⟨a, cap, h0, h1, h2, h3⟩ := h
  refine ⟨a, cap, h0, h1, h2, ?_⟩
  rcases h3 with h3 | ⟨b, off, e, hb, hz⟩
  · exact .inl h3
  · exact .inr ⟨b, off, e, hb, fun i hi => by rw [← hZ i hi]; exact hz i hi⟩

/-- What number tells, by what there is to be read. -/
def NumP (p B n : Nat) (Z : Nat → Int) (w : World) (e : Ending) (w' : World) : Prop :=
  match rd Z n with
  | none => Pan e ∧ Keeps p w w'
  | some x => e = .returned (.int .u64 (x.1 : Int)) ∧ UpAt w' p B (n - x.2) (fun i => Z (i + x.2)) ∧ Keeps p w w'
theorem NumP.none {p B n : Nat} {Z : Nat → Int} {w w' : World} {e : Ending} (h : rd Z n = none) (he : Pan e) (hk : Keeps p w w') : NumP p B n Z w e w' := by
  unfold NumP; rw [h]; exact ⟨he, hk⟩
theorem NumP.some {p B n : Nat} {Z : Nat → Int} {w w' : World} {e : Ending} {x y : Nat} (h : rd Z n = some (x, y)) (he : e = .returned (.int .u64 (x : Int))) (hu : UpAt w' p B (n - y) (fun i => Z (i + y))) (hk : Keeps p w w') : NumP p B n Z w e w' := by
  unfold NumP; rw [h]; exact ⟨he, hu, hk⟩

set_option maxHeartbeats 4000000 in
theorem number_any (p B n : Nat) (Z : Nat → Int) (w : World) (h : UpAt w p B n Z) (hB : B ≤ p) (hp : p < w.heap.size) (hr : ∀ i, 0 ≤ Z i ∧ Z i ≤ 255) (hmax : n ≤ 1048576) :
    Calls Try.prog 88 #[.pointer (some ⟨p, 0, none⟩)] w fun e w' => NumP p B n Z w e w' := by
  have HU : Hid (UpAt w p B n Z) := h
  have HR : Hid (∀ i, 0 ≤ Z i ∧ Z i ≤ 255) := hr
  clear h hr
  go_enter Try.func88, Try.ntmps88
  go_wp2
  go_loopw [3, 6] (fun x i wr => ∃ (k f A : Nat), i = .int .i64 (k : Int) ∧ x = .int .u64 (A : Int) ∧ k + f = 6 ∧ k ≤ n ∧ Hid (A < 128 ^ k ∧ rdFrom Z n f k A = rd Z n) ∧ UpAt wr p B (n - k) (fun i => Z (i + k)) ∧ Keeps p w wr) (fun _ i _ => 6 - (intOf i).toNat)
  case atStart => exact ⟨0, 6, 0, rfl, rfl, rfl, by omega, ⟨by simp, rfl⟩, HU.out, Keeps.refl _ _⟩
  case round =>
    obtain ⟨k, f, A, rfl, rfl, hkf, hkn, HK, hU, hK⟩ := hrel
    have HU1 : Hid (UpAt wr p B (n - k) (fun i => Z (i + k))) := hU
    have HK1 : Hid (Keeps p w wr) := hK
    have hpw : p < wr.heap.size := Nat.lt_of_lt_of_le hp hK.size
    clear hU hK HU
    by_cases hk6 : k < 6
    · have hk6' : (k : Int) < 6 := by omega
      obtain ⟨f, rfl⟩ : ∃ g, f = g + 1 := ⟨f - 1, by omega⟩
      by_cases hlt : k < n
      · have hT := take_some p B (n - k) 1 (fun i => Z (i + k)) wr HU1.out hB hpw (by omega) (by omega) (by omega)
        have HT := (show Hid _ from hT)
        clear hT
        obtain ⟨hA, hrd⟩ := HK.out
        obtain ⟨z1, z2⟩ := HR.out k
        obtain ⟨z, hz⟩ : ∃ z : Nat, Z k = (z : Int) := ⟨(Z k).toNat, by omega⟩
        obtain ⟨u1, u2⟩ := pow_bd (k := k) (by omega)
        obtain ⟨p1, p2⟩ := part_bd (z := z) u2
        have hor := or_part (z := z) hA (by omega)
        obtain ⟨P, hP⟩ : ∃ P, z % 128 * 128 ^ k = P := ⟨_, rfl⟩
        rw [hP] at p1 p2 hor
        have hAP : Hid (A + P < 128 ^ (k + 1)) := by show _ < _; rw [Nat.pow_succ]; omega
        have HM : Hid (rdFrom Z n (f + 1) k A = rd Z n) := hrd
        have HZ : Hid (Z k = (z : Int)) := hz
        have hPU : Hid (z % 128 * 128 ^ k = P) := hP
        have hzb : z ≤ 255 := by omega
        go_wp2_with fail
        refine Calls.mono HT.out ?_
        rintro e w1 ⟨g, rfl, hg1, hg2, hbs, hup, hke⟩
        have hx : w1.cell? ⟨g, 0, none⟩ = some (.int .u8 (z : Int)) := by have := hbs 0 (by omega); simpa [hz] using this
        have HU2 : Hid (UpAt w1 p B (n - (k + 1)) (fun i => Z (i + (k + 1)))) := hup.same (by omega) (fun i _ => by congr 1; omega)
        have HK2 : Hid (Keeps p w w1) := HK1.out.trans hke
        have hA2 : Hid (A < 128 ^ k) := hA
        clear hbs hup hke hrd hz z1 z2 hP HK hA HT
        have e1 : IntKind.u8.wrap ((z : Int) % 128) = (z : Int) % 128 := by rw [IntKind.wrap_u8]; omega
        have e3 : (z : Int).tmod 128 = (z : Int) % 128 := Int.tmod_eq_emod_of_nonneg (by omega)
        have e4 : IntKind.u64.wrap ((z : Int) % 128) = (z : Int) % 128 := by rw [IntKind.wrap_u64]; omega
        have e5 : IntKind.u64.wrap ((z : Int) % 128 * 2 ^ (k * 7)) = (P : Int) := by
          have : (z : Int) % 128 * 2 ^ (k * 7) = (P : Int) := by
            rw [← hPU.out, ← pow7]; simp
          rw [this, IntKind.wrap_u64]; omega
        have e6 : bits .or .u64 (A : Int) (P : Int) = (A : Int) + (P : Int) := by rw [hor]; simp
        clear hor
        by_cases h8 : z < 128
        · have HL : Hid (rd Z n = if (0 < k ∧ z = 0) ∨ 1099511627776 < A + P then none else some (A + P, k + 1)) := by show _ = _; rw [← HM.out, rdFrom_last hlt HZ.out h8 hPU.out]
          have h8' : ¬ (128 : Int) ≤ (z : Int) := by omega
          by_cases hkz : 0 < k ∧ z = 0
          · have HN : Hid (rd Z n = none) := by show _ = _; rw [HL.out, if_pos (.inl hkz)]
            obtain ⟨hk0, rfl⟩ := hkz
            have hk0' : (0 : Int) < (k : Int) := by omega
            clear HL HM HZ hPU hAP
            go_wp2
            exact ⟨rfl, NumP.none HN.out ⟨_, _, rfl⟩ HK2.out⟩
          · by_cases h40 : 1099511627776 < A + P
            · have HN : Hid (rd Z n = none) := by show _ = _; rw [HL.out, if_pos (.inr h40)]
              have hk1 : 0 < k := by
                rcases Nat.eq_zero_or_pos k with h | h
                · subst h; have := hPU.out; have := hA2.out; simp at *; omega
                · exact h
              have hz0 : ¬ z = 0 := fun h => hkz ⟨hk1, h⟩
              have hz0' : ¬ (z : Int) = 0 := by omega
              have hk0' : (0 : Int) < (k : Int) := by omega
              have h40' : (1099511627776 : Int) < (A : Int) + (P : Int) := by omega
              clear HL HM HZ hPU hAP hkz
              go_wp2
              exact ⟨rfl, NumP.none HN.out ⟨_, _, rfl⟩ HK2.out⟩
            · have HN : Hid (rd Z n = some (A + P, k + 1)) := by show _ = _; rw [HL.out, if_neg (by omega)]
              have h40' : ¬ (1099511627776 : Int) < (A : Int) + (P : Int) := by omega
              by_cases hz0 : z = 0
              · have hk0 : k = 0 := by omega
                have hP0 : P = 0 := by have := hPU.out; rw [hz0] at this; simpa using this.symm
                have hk0' : ¬ (0 : Int) < (k : Int) := by omega
                subst hz0
                have e7 : IntKind.u64.wrap 0 = 0 := rfl
                rw [hP0] at e6
                simp only [Int.natCast_zero, Int.add_zero] at e6
                have hA3 : ¬ (1099511627776 : Int) < (A : Int) := by omega
                clear HL HM HZ hPU hAP hkz
                go_wp2
                go_ret
                exact NumP.some HN.out (by simp [hP0]) HU2.out HK2.out
              · have hz0' : ¬ (z : Int) = 0 := by omega
                clear HL HM HZ hPU hAP hkz
                go_wp2
                go_ret
                exact NumP.some HN.out (by simp) HU2.out HK2.out
        · have h8' : (128 : Int) ≤ (z : Int) := by omega
          go_wp2
          go_roundw
          case rel => exact ⟨k + 1, f, A + P, by go_num, by go_num, by omega, by omega, ⟨hAP.out, by rw [← HM.out, rdFrom_more hlt HZ.out h8 hPU.out]⟩, HU2.out, HK2.out⟩
          case measure => simp [intOf]; omega
      · have hT := take_none p B (n - k) 1 (fun i => Z (i + k)) wr HU1.out (by omega) (by omega) (by omega)
        have HT := (show Hid _ from hT)
        clear hT
        have HN : Hid (rd Z n = none) := by show _ = _; rw [← HK.out.2, rdFrom_end _ _ _ _ _ hlt]
        clear HK
        go_wp2_with fail
        refine Calls.mono HT.out ?_
        rintro e w1 ⟨⟨u, pv, rfl⟩, rfl⟩
        exact ⟨rfl, NumP.none HN.out ⟨_, _, rfl⟩ HK1.out⟩
    · have hk6' : ¬ (k : Int) < 6 := by omega
      have HN : Hid (rd Z n = none) := by
        show _ = _
        obtain rfl : f = 0 := by omega
        rw [← HK.out.2]; rfl
      clear HK
      go_wp2
      exact ⟨rfl, NumP.none HN.out ⟨_, _, rfl⟩ HK1.out⟩
end Go.Proofs.Ytcbpaockahkakaa
/- What the small functions of points answer, and that they write nothing that was there. -/

namespace Go.Proofs.Ytcbpaockahkakaa
open Go.RowKit
set_option linter.unusedSimpArgs false
set_option linter.unusedVariables false

/-- Both within 5120, either way. -/
def Df (x y : Int) : Prop := (-5120 ≤ x ∧ x ≤ 5120) ∧ (-5120 ≤ y ∧ y ≤ 5120)

/-- Whether a is above b neither in X nor in Y. -/
def upB (ax ay bx by' : Int) : Bool := decide (ax ≤ bx) && decide (ay ≤ by')
theorem eqPoint_any (ax ay : Int) (w : World) :
    Calls Try.prog 109 #[.agg #[.int .i64 ax, .int .i64 ay], .agg #[.int .i64 ax, .int .i64 ay]] w fun e w' => e = .returned (.bool true) ∧ Below w.heap.size w w' := by
  go_enter Try.func109, Try.ntmps109
  go_wp2
  go_ret
  exact ⟨rfl, by (repeat (first | exact Below.refl _ _ | assumption | refine Below.drew ?_ | refine bl_alloc ?_ _ | refine bl_then ?_ (by assumption) | refine Below.setCell ?_ (by first | omega | (simp; done) | (simp; omega)) _ | refine bl_store ?_ ?_ _ _))⟩

end Go.Proofs.Ytcbpaockahkakaa
