/- The words of a line: the model. -/
import Derived.Test.YtbijdoddalfedaaWy1
import Derived.Test.YtbijdoddalfedaaRwb
import Derived.Test.YtbijdoddalfedaaApo
import Derived.WalkSpells
import Derived.WalkLawsBesides
import Derived.Outline
import Derived.Laws.DeepStrings4
import Derived.Deep.RegionHeld3
namespace Go.Proofs.Ytbijdoddalfedaa
open Go.RowKit
set_option linter.unusedSimpArgs false
set_option linter.unusedVariables false
set_option maxRecDepth 100000

theorem exB_def (s : ByteArray) (a b : Nat) : s.extract a b = exB s (a, b) := rfl
set_option maxHeartbeats 8000000 in
theorem l2Cut_any (s : ByteArray) (w : World) (hs : s.size ≤ 1048576) : Calls Try.prog 15 #[.string s, .int .u8 32] w fun e w' => ∃ v, e = .returned v ∧ RowB w.heap.size w' v ((pcsZ s).map (exB s)) ∧ Below w.heap.size w w' := by
  obtain ⟨i0, hi, hz0, hz1, hz2⟩ := info_strL
  go_enter Try.func15, Try.ntmps15
  go_wp2_with fail
  generalize hW : (World.alloc w _ : World) = W
  have HB0 : Hid (Below w.heap.size w W) := by show Below _ _ _; subst hW; (repeat (first | exact Below.refl _ _ | assumption | refine Below.drew ?_ | refine bl_alloc ?_ _ | refine bl_then ?_ (by assumption) | refine Below.setCell ?_ (by first | omega | (simp; done) | (simp; omega)) _ | refine bl_store ?_ ?_ _ _))
  have HS0 : Hid (RowB w.heap.size W (.slice (some ⟨w.heap.size, 0, none⟩) 0 0) []) := by
    show World.ownsRow _ _ _ _ _ _ _
    subst hW
    exact World.ownsRow_lit (base := w.heap.size) (size := 1) w #[] 0 (Nat.le_refl _) (Nat.zero_le _) rfl
  clear hW
  go_loopw [5, 6, 7] (fun v f i wr => ∃ (k g cp : Nat), i = .int .i64 (k : Int) ∧ k ≤ s.size + 1 ∧ f = .int .i64 ((cutZ s k).2 : Int) ∧ v = .slice (some ⟨g, 0, none⟩) ((cutZ s k).1.length) cp ∧ RowB w.heap.size wr (.slice (some ⟨g, 0, none⟩) ((cutZ s k).1.length) cp) ((cutZ s k).1.map (exB s)) ∧ Below w.heap.size w wr) (fun _ _ i _ => s.size + 1 - (intOf i).toNat)
  case atStart => exact ⟨0, w.heap.size, 0, rfl, Nat.zero_le _, rfl, rfl, HS0.out, HB0.out⟩
  case round =>
    obtain ⟨k, g, cp, rfl, hk1, rfl, rfl, hR, hB⟩ := hrel
    have HR : Hid (RowB w.heap.size wr (.slice (some ⟨g, 0, none⟩) ((cutZ s k).1.length) cp) ((cutZ s k).1.map (exB s))) := hR
    have HB : Hid (Below w.heap.size w wr) := hB
    obtain ⟨hF, hL, _⟩ := cutZ_le s k
    clear hR hB HS0 HB0
    by_cases hk : k ≤ s.size
    · have hki : (k : Int) ≤ (s.size : Int) := by omega
      have hk0 : (0 : Int) ≤ (k : Int) := by omega
      have hFi : ((cutZ s k).2 : Int) ≤ (k : Int) := by omega
      have hF0 : (0 : Int) ≤ ((cutZ s k).2 : Int) := by omega
      by_cases hc : k = s.size ∨ byW s k = 32
      · have HY : Hid (cutZ s (k + 1) = ((cutZ s k).1 ++ [((cutZ s k).2, k)], k + 1)) := cutZ_yes hc
        have HX : Hid (exB s ((cutZ s k).2, k) = s.extract (cutZ s k).2 k) := rfl
        have HLn : Hid (((cutZ s k).1.map (exB s)).length = (cutZ s k).1.length) := List.length_map _
        generalize (cutZ s k).2 = F at *
        generalize hLe : (cutZ s k).1 = L at *
        refine' (fun (fin : ∀ (v6 : Value) (w6 : World), w6.ownsRow w.heap.size 9 1 v6 (L.length + 1) (L.map ((fun x => Value.string x) ∘ exB s) ++ [.string (s.extract F k)]) → Below w.heap.size w w6 → ∃ (g6 c6 : Nat), v6 = .slice (some ⟨g6, 0, none⟩) ((cutZ s (k + 1)).1.length) c6 ∧ RowB w.heap.size w6 v6 ((cutZ s (k + 1)).1.map (exB s))) => ?_) ?_
        rotate_left
        · intro v6 w6 hown hb
          have hr : RowB w.heap.size w6 v6 ((cutZ s (k + 1)).1.map (exB s)) := by
            rw [HY.out]
            show World.ownsRow _ _ _ _ _ _ _
            simp only [List.map_append, List.length_append, List.length_map, List.map_map, List.map_cons, List.map_nil, List.length_cons, List.length_nil]
            exact hown
          obtain ⟨g6, c6, hv, _⟩ := rowB_form hr (by rw [HY.out]; simp)
          rw [List.length_map] at hv
          exact ⟨g6, c6, hv, hr⟩
        have Fin := (show Hid _ from fin)
        have hHO : World.ownsRow wr w.heap.size 9 1 (.slice (some ⟨g, 0, none⟩) L.length cp) (L.map (exB s)).length ((L.map (exB s)).map (.string ·)) := HR.out
        have HHO := (show Hid _ from hHO)
        clear fin HR hHO
        by_cases e2 : k = s.size
        · subst e2
          clear hc
          go_wp2_with (first
            | (at_builtin; go_must (refine wpList_append_own _ rfl _ _ 22 rfl w.heap.size 9 i0 (.string ⟨#[]⟩) 1 16 Try.underlying22 hi hz0 hz1 hz2 rfl (by decide) _ (L.map (exB s)).length ((L.map (exB s)).map (.string ·)) rfl (World.ownsRow.alloc HHO.out _) ⟨wr.heap.size, 0, none⟩ 1 1 [.string (s.extract F s.size)] rfl rfl ?c1 ?c2 ?c3 ?c4 ?c5 ?_)))
          case c1 =>
            intro q u hq
            match q, hq with
            | 0, hq => simp at hq; subst hq; simp [Addr.add, go_sem]
            | q + 1, hq => simp at hq
          case c2 => intro u hu; simp at hu; subst hu; rfl
          case c3 => rw [List.length_map]; unfold maxLen; omega
          case c4 => rw [List.length_map]; omega
          case c5 => have := HB.out.size; simp; omega
          intro v' w3 hown' hgrow hnil
          clear hnil
          have hb3 : Below w.heap.size w w3 := (HB.out.trans (show Below w.heap.size wr _ from (bl_alloc (Below.refl _ _) _).mono HB.out.size)).grown hgrow (by have := HB.out.size; simp; omega) (fun j hj => by have := World.ownsRow.lt HHO.out j hj; omega)
          have HB3 : Hid (Below w.heap.size w w3) := hb3
          obtain ⟨g6, c6, hv6, hr6⟩ := Fin.out v' w3 hown' hb3
          subst hv6
          have HR6 := (show Hid _ from hr6)
          clear hown' hgrow hb3 hr6
          go_wp2_with fail
          exact ⟨⟨s.size + 1, g6, c6, by simp, by omega, by rw [HY.out]; simp, rfl, HR6.out, HB3.out⟩, by (simp [intOf]; try omega)⟩
        have e : byW s k = 32 := hc.resolve_left e2
        clear hc
        have hkl : k < s.size := by omega
        have hkli : (k : Int) < (s.size : Int) := by omega
        have hne : ¬ (k : Int) = (s.size : Int) := by omega
        have hbk := (byW_at s k hkl).symm
        have hc1 : ((k : Int) == (s.size : Int)) = false := by simpa using hne
        have hc2 : (byW s k == 32) = true := by simpa using e
        clear e
        go_wp2_with (first
          | (at_builtin; go_must (refine wpList_append_own _ rfl _ _ 22 rfl w.heap.size 9 i0 (.string ⟨#[]⟩) 1 16 Try.underlying22 hi hz0 hz1 hz2 rfl (by decide) _ (L.map (exB s)).length ((L.map (exB s)).map (.string ·)) rfl (World.ownsRow.alloc HHO.out _) ⟨wr.heap.size, 0, none⟩ 1 1 [.string (s.extract F k)] rfl rfl ?c1 ?c2 ?c3 ?c4 ?c5 ?_)))
        case c1 =>
          intro q u hq
          match q, hq with
          | 0, hq => simp at hq; subst hq; simp [Addr.add, go_sem]
          | q + 1, hq => simp at hq
        case c2 => intro u hu; simp at hu; subst hu; rfl
        case c3 => rw [List.length_map]; unfold maxLen; omega
        case c4 => rw [List.length_map]; omega
        case c5 => have := HB.out.size; simp; omega
        intro v' w3 hown' hgrow hnil
        clear hnil
        have hb3 : Below w.heap.size w w3 := (HB.out.trans (show Below w.heap.size wr _ from (bl_alloc (Below.refl _ _) _).mono HB.out.size)).grown hgrow (by have := HB.out.size; simp; omega) (fun j hj => by have := World.ownsRow.lt HHO.out j hj; omega)
        have HB3 : Hid (Below w.heap.size w w3) := hb3
        obtain ⟨g6, c6, hv6, hr6⟩ := Fin.out v' w3 hown' hb3
        subst hv6
        have HR6 := (show Hid _ from hr6)
        clear hown' hgrow hb3 hr6
        go_wp2_with fail
        exact ⟨⟨k + 1, g6, c6, by simp, by omega, by rw [HY.out]; simp, rfl, HR6.out, HB3.out⟩, by (simp [intOf]; try omega)⟩
      · have HN := (show Hid _ from cutZ_no hc)
        have hkl : k < s.size := by omega
        have hkli : (k : Int) < (s.size : Int) := by omega
        have hne : ¬ (k : Int) = (s.size : Int) := by omega
        have hbk := (byW_at s k hkl).symm
        have hb32 : ¬ byW s k = 32 := fun h => hc (.inr h)
        have hc1 : ((k : Int) == (s.size : Int)) = false := by simpa using hne
        have hc2 : (byW s k == 32) = false := by simpa using hb32
        clear hc hb32 hne
        go_wp2_with fail
        exact ⟨⟨k + 1, g, cp, by simp, by omega, by rw [HN.out], by rw [HN.out], by rw [HN.out]; exact HR.out, HB.out⟩, by simp [intOf]; omega⟩
    · obtain rfl : k = s.size + 1 := by omega
      have hki : ¬ ((s.size + 1 : Nat) : Int) ≤ (s.size : Int) := by omega
      go_wp2
      go_ret
      exact ⟨_, rfl, HR.out, HB.out⟩
theorem rowB_set {base q o : Nat} {u : Value} {w : World} {v : Value} {l : List ByteArray} (h : RowB base w v l) (hq : q < base) : RowB base (w.setCell ⟨q, o, none⟩ u) v l := by
  obtain ⟨h1, h2 | ⟨g, cp, cur, hv, hg, hh, hr⟩⟩ := h
  · exact ⟨h1, .inl h2⟩
  · exact ⟨h1, .inr ⟨g, cp, cur, hv, hg, by rw [Below.heap_setCell w ⟨q, o, none⟩ u g (by simp; omega)]; exact hh, hr⟩⟩
theorem rowB_wide {base base' : Nat} {w : World} {v : Value} {l : List ByteArray} (h : RowB base w v l) (hb : base' ≤ base) : RowB base' w v l := by
  obtain ⟨h1, h2 | ⟨g, cp, cur, hv, hg, hh, hr⟩⟩ := h
  · exact ⟨h1, .inl h2⟩
  · exact ⟨h1, .inr ⟨g, cp, cur, hv, Nat.le_trans hb hg, hh, hr⟩⟩
set_option maxHeartbeats 8000000 in
theorem l16Words_any (s : ByteArray) (w : World) (hs : s.size ≤ 1048576) : Calls Try.prog 9 #[.string s] w fun e w' => ∃ v, e = .returned v ∧ RowB w.heap.size w' v (wdsB s) ∧ Below w.heap.size w w' := by
  obtain ⟨i0, hi, hz0, hz1, hz2⟩ := info_strL
  have HC : Hid (∀ W, Calls Try.prog 15 #[.string s, .int .u8 32] W fun e w' => ∃ v, e = .returned v ∧ RowB W.heap.size w' v ((pcsZ s).map (exB s)) ∧ Below W.heap.size W w') := fun W => l2Cut_any s W hs
  have hpl := (pcsZ_le s).1
  have HX : Hid (∀ (j : Nat) x, (pcsZ s)[j]? = some x → (x.1 < x.2 → (exB s x).toList.isEmpty = false) ∧ (¬ x.1 < x.2 → (exB s x).toList.isEmpty = true)) := fun j x h => by
    have hx := (pcsZ_le s).2 x (List.mem_of_getElem? h)
    have hz := exB_size hx
    exact ⟨fun hl => strW_ne (by omega), fun hl => strW_no (by omega)⟩
  have hP : 0 < (pcsZ s).length := by rw [pcsZ_eq]; simp
  have HTk : Hid (∀ k x, (pcsZ s)[k]? = some x → fullZ ((pcsZ s).take (k + 1)) = fullZ ((pcsZ s).take k) ++ fullZ [x]) := fun k x h => by
    rw [List.take_add_one, h, fullZ_app]
    rfl
  have HLe : Hid (∀ k, (fullZ ((pcsZ s).take k)).length ≤ k) := fun k => Nat.le_trans (fullZ_le _) (by rw [List.length_take]; omega)
  have HAll : Hid ((fullZ ((pcsZ s).take (pcsZ s).length)).map (exB s) = wdsB s) := by
    show _ = _
    rw [List.take_length]
    rfl
  generalize wdsB s = WD at *
  generalize pcsZ s = P at *
  go_enter Try.func9, Try.ntmps9
  go_wp2_with fail
  generalize hW : (World.alloc w _ : World) = W
  have HB0 : Hid (Below w.heap.size w W) := by show Below _ _ _; subst hW; (repeat (first | exact Below.refl _ _ | assumption | refine Below.drew ?_ | refine bl_alloc ?_ _ | refine bl_then ?_ (by assumption) | refine Below.setCell ?_ (by first | omega | (simp; done) | (simp; omega)) _ | refine bl_store ?_ ?_ _ _))
  have hzW : W.heap.size = w.heap.size + 1 := by subst hW; simp
  have HS0 : Hid (RowB w.heap.size W (.slice (some ⟨w.heap.size, 0, none⟩) 0 0) []) := by
    show World.ownsRow _ _ _ _ _ _ _
    subst hW
    exact World.ownsRow_lit (base := w.heap.size) (size := 1) w #[] 0 (Nat.le_refl _) (Nat.zero_le _) rfl
  clear hW
  refine Calls.mono (HC.out W) ?_
  rintro e w2 ⟨v, rfl, hr, hb⟩
  obtain ⟨gp, cp, hv, hcp⟩ := rowB_form hr (by rw [List.length_map]; exact hP)
  rw [List.length_map] at hv
  subst hv
  have hgl := World.ownsRow.lt hr gp rfl
  have HPc : Hid (∀ W' : World, W'.heap[gp]? = w2.heap[gp]? → ∀ (j : Nat) x, P[j]? = some x → W'.cell? ⟨gp, j, none⟩ = some (.string (exB s x))) := fun W' h j x hj => by
    rw [World.cell?_of_block (a := ⟨gp, j, none⟩) h]
    have := World.ownsRow.cells hr (g := gp) rfl j (.string (exB s x)) (by simp [hj])
    rw [add_plainB] at this
    exact this
  have HR2 : Hid (RowB w.heap.size w2 (.slice (some ⟨w.heap.size, 0, none⟩) 0 0) []) := rowB_but HS0.out hb
  have HB2 : Hid (Below w.heap.size w w2) := bl_then HB0.out hb
  clear hr hb HS0 HB0 HC hcp
  go_wp2_with fail
  go_loopw [3, 5] (fun v i wr => ∃ (k g c : Nat), i = .int .i64 (k : Int) ∧ k ≤ P.length ∧ v = .slice (some ⟨g, 0, none⟩) ((fullZ (P.take k)).length) c ∧ RowB w.heap.size wr (.slice (some ⟨g, 0, none⟩) ((fullZ (P.take k)).length) c) ((fullZ (P.take k)).map (exB s)) ∧ g ≠ gp ∧ wr.heap[gp]? = w2.heap[gp]? ∧ w2.heap.size ≤ wr.heap.size ∧ Below w.heap.size w wr) (fun _ i _ => P.length - (intOf i).toNat)
  case atStart => exact ⟨0, w.heap.size, 0, rfl, Nat.zero_le _, rfl, HR2.out, by omega, rfl, Nat.le_refl _, HB2.out⟩
  case round =>
    obtain ⟨k, g, c, rfl, hk1, rfl, hR, hne, hK, hsz, hB⟩ := hrel
    have HR : Hid (RowB w.heap.size wr (.slice (some ⟨g, 0, none⟩) ((fullZ (P.take k)).length) c) ((fullZ (P.take k)).map (exB s))) := hR
    have HB : Hid (Below w.heap.size w wr) := hB
    have HK : Hid (wr.heap[gp]? = w2.heap[gp]?) := hK
    have hle := HLe.out k
    clear hR hB hK HR2 HB2
    by_cases hk : k < P.length
    · have hki : (k : Int) < (P.length : Int) := by omega
      have hk0 : (0 : Int) ≤ (k : Int) := by omega
      obtain ⟨x, hx⟩ : ∃ x, P[k]? = some x := ⟨_, List.getElem?_eq_getElem hk⟩
      have cell := HPc.out wr HK.out k x hx
      have HA := (show Hid _ from HTk.out k x hx)
      obtain ⟨hx1, hx2⟩ := HX.out k x hx
      generalize hEx : exB s x = X at *
      have HEx : Hid (exB s x = X) := hEx
      clear hEx
      by_cases hlt : x.1 < x.2
      · have he := hx1 hlt
        have HFu : Hid (fullZ [x] = [x]) := fullZ_yes hlt
        clear hx1 hx2 hx
        go_wp2_with (first
          | (at_builtin; go_must (refine wpList_stop ?_)))
        show wpList _ _ _ _ _ _
        generalize hU : (World.alloc wr _ : World) = U
        have a0 : U.cell? ⟨wr.heap.size, 0, none⟩ = some (.string X) := by subst hU; simp [go_sem]
        have hbU : Below wr.heap.size wr U := by subst hU; (repeat (first | exact Below.refl _ _ | assumption | refine Below.drew ?_ | refine bl_alloc ?_ _ | refine bl_then ?_ (by assumption) | refine Below.setCell ?_ (by first | omega | (simp; done) | (simp; omega)) _ | refine bl_store ?_ ?_ _ _))
        have hzU : U.heap.size = wr.heap.size + 1 := by subst hU; simp
        have HRU : Hid (RowB w.heap.size U (.slice (some ⟨g, 0, none⟩) ((fullZ (P.take k)).length) c) ((fullZ (P.take k)).map (exB s))) := rowB_but HR.out hbU
        have HBU : Hid (Below w.heap.size w U) := bl_then HB.out hbU
        have HKU : Hid (U.heap[gp]? = w2.heap[gp]?) := (hbU.block _ (by omega)).trans HK.out
        clear hU hbU HR HB HK cell he
        refine wpList_append_own2 rfl (.tmp 20) (.tmp 25) 22 rfl w.heap.size 9 i0 (.string ⟨#[]⟩) 1 16 Try.underlying22 hi hz0 hz1 hz2 rfl (by decide) (.slice (some ⟨g, 0, none⟩) ((fullZ (P.take k)).length) c) ((fullZ (P.take k)).map (exB s)).length (((fullZ (P.take k)).map (exB s)).map (.string ·)) rfl ?r0 ⟨wr.heap.size, 0, none⟩ 1 1 [.string X] rfl rfl ?r1 ?r2 ?r3 ?r4 ?r5 ?_
        case r0 => exact HRU.out
        case r1 =>
          intro q u hq
          match q, hq with
          | 0, hq => exact (Option.some.inj hq) ▸ a0
          | q + 1, hq => cases hq
        case r2 => intro u hu; simp at hu; subst hu; rfl
        case r3 => rw [List.length_map]; unfold maxLen; omega
        case r4 => rw [List.length_map]; omega
        case r5 => have := HBU.out.size; omega
        intro v6 w6 hown6 hg6 hl6
        have HR6 : Hid (RowB w.heap.size w6 v6 ((fullZ (P.take (k + 1))).map (exB s))) := by
          rw [HA.out, HFu.out]
          show World.ownsRow _ _ _ _ _ _ _
          rw [List.map_append, List.length_append, List.map_append]
          show World.ownsRow _ _ _ _ _ (_ + 1) (_ ++ [.string (exB s x)])
          rw [HEx.out]
          exact hown6
        obtain ⟨g6, cp6, hv6, _⟩ := rowB_form HR6.out (by rw [HA.out, HFu.out]; simp)
        rw [List.length_map] at hv6
        subst hv6
        have hg6n : g6 ≠ gp := by
          rcases hl6 g6 rfl with h | h
          · have h' : some g = some g6 := h
            injection h' with h'
            omega
          · omega
        have HK6 : Hid (w6.heap[gp]? = w2.heap[gp]?) := (hg6.block _ (by omega) (by simp [Value.ownBlock]; omega)).trans HKU.out
        have HB6 : Hid (Below w.heap.size w w6) := HBU.out.grown hg6 (HBU.out.size) (fun j hj => by have := World.ownsRow.lt HRU.out j hj; omega)
        have hs6 := hg6.size
        clear hown6 hg6 hl6 a0 HRU HBU HKU
        go_wp2_with fail
        exact ⟨⟨k + 1, g6, cp6, by simp, by omega, rfl, HR6.out, hg6n, HK6.out, by omega, HB6.out⟩, by simp [intOf]; omega⟩
      · have he := hx2 hlt
        have HFu : Hid (fullZ [x] = []) := fullZ_no hlt
        have HA2 : Hid (fullZ (P.take (k + 1)) = fullZ (P.take k)) := by show _ = _; rw [HA.out, HFu.out, List.append_nil]
        clear hx1 hx2 hx
        go_wp2_with fail
        exact ⟨⟨k + 1, g, c, by simp, by omega, by rw [HA2.out], by rw [HA2.out]; exact HR.out, hne, HK.out, hsz, HB.out⟩, by simp [intOf]; omega⟩
    · obtain rfl : k = P.length := by omega
      have hki : ¬ (P.length : Int) < (P.length : Int) := by omega
      rw [HAll.out, List.take_length] at HR
      go_wp2
      go_ret
      exact ⟨_, rfl, HR.out, HB.out⟩
set_option maxHeartbeats 4000000 in
theorem spec_WordsOf_any (s : ByteArray) (w : World) (hs : s.size ≤ 1048576) : Calls Try.prog 4 #[.string s] w fun e w' => ∃ v, e = .returned (.agg #[.int .i64 0, v]) ∧ RowB w.heap.size w' v (wdsB s) ∧ Below w.heap.size w w' := by
  have HC := (show Hid _ from fun W => l16Words_any s W hs)
  go_enter Try.func4, Try.ntmps4
  go_wp2_with fail
  generalize hW : (World.alloc w _ : World) = W
  have HB0 : Hid (Below w.heap.size w W) := by show Below _ _ _; subst hW; (repeat (first | exact Below.refl _ _ | assumption | refine Below.drew ?_ | refine bl_alloc ?_ _ | refine bl_then ?_ (by assumption) | refine Below.setCell ?_ (by first | omega | (simp; done) | (simp; omega)) _ | refine bl_store ?_ ?_ _ _))
  have hzW : w.heap.size < W.heap.size := by subst hW; simp
  have HU : Hid (∀ W', Below W.heap.size W W' → W'.cell? ⟨w.heap.size, 0, none⟩ = some (.int .i64 0) ∧ W'.cell? ⟨w.heap.size, 1, none⟩ = some (.slice none 0 0) ∧ W'.frozen? ⟨w.heap.size, 0, none⟩ = false ∧ W'.frozen? ⟨w.heap.size, 1, none⟩ = false) := fun W' h => by
    rw [h.cell (by subst hW; simp), h.cell (by subst hW; simp), h.frozen (by subst hW; simp), h.frozen (by subst hW; simp)]
    subst hW
    simp [go_sem]
  clear hW
  refine Calls.mono (HC.out W) ?_
  rintro e w2 ⟨v, rfl, hr, hb⟩
  obtain ⟨va, vc, hv, _⟩ := hr.is
  subst hv
  have HB2 : Hid (Below w.heap.size w w2) := bl_then HB0.out hb
  obtain ⟨u0, u1, v0, v1⟩ := HU.out w2 hb
  have HR : Hid (RowB W.heap.size w2 (.slice va (wdsB s).length vc) (wdsB s)) := hr
  clear hr hb HC HU HB0
  go_wp2_with fail
  refine bodyPost_ret (v := .agg #[.int .i64 0, .slice va (wdsB s).length vc]) (by simp [results, Try.results4, go_sem, *]) rfl ⟨_, rfl, ?_, ?_⟩
  · exact rowB_wide (rowB_set (rowB_set HR.out hzW) hzW) (by omega)
  · exact (HB2.out.setCell (Nat.le_refl _) _).setCell (Nat.le_refl _) _
end Go.Proofs.Ytbijdoddalfedaa
