/- A feature is read from what is left of bytes: the program's way. -/
import Derived.Test.YtcbpaockahkakaaVReadTile10
namespace Go.Proofs.Ytcbpaockahkakaa
open Go.RowKit
set_option linter.unusedSimpArgs false
set_option linter.unusedVariables false
set_option maxRecDepth 100000

theorem OutAt.fz {w : World} {O : Nat} {id la ki wi pr : Int} {v : Value} {lab : ByteArray} (h : OutAt w O id la ki wi v lab pr) (j : Nat) : w.frozen? ⟨O, j, none⟩ = false := by
  unfold OutAt at h
  simp [World.frozen?, h]
theorem OutAt.setAt {w : World} {O : Nat} {id la ki wi pr : Int} {v : Value} {lab : ByteArray} (h : OutAt w O id la ki wi v lab pr) (u : Int) :
    OutAt (w.setCell ⟨O, 0, none⟩ (.int .i64 u)) O u la ki wi v lab pr ∧ OutAt (w.setCell ⟨O, 1, none⟩ (.int .i64 u)) O id u ki wi v lab pr ∧ OutAt (w.setCell ⟨O, 2, none⟩ (.int .i64 u)) O id la u wi v lab pr ∧ OutAt (w.setCell ⟨O, 3, none⟩ (.int .i64 u)) O id la ki u v lab pr ∧ OutAt (w.setCell ⟨O, 6, none⟩ (.int .i64 u)) O id la ki wi v lab u := by
  refine ⟨?_, ?_, ?_, ?_, ?_⟩
  · simpa [OutAt] using heap_setCell_same w O 0 _ 71 (.int .i64 u) h
  · simpa [OutAt] using heap_setCell_same w O 1 _ 71 (.int .i64 u) h
  · simpa [OutAt] using heap_setCell_same w O 2 _ 71 (.int .i64 u) h
  · simpa [OutAt] using heap_setCell_same w O 3 _ 71 (.int .i64 u) h
  · simpa [OutAt] using heap_setCell_same w O 6 _ 71 (.int .i64 u) h
theorem OutAt.lab {w : World} {O : Nat} {id la ki wi pr : Int} {v : Value} {lab : ByteArray} (h : OutAt w O id la ki wi v lab pr) (u : ByteArray) : OutAt (w.setCell ⟨O, 5, none⟩ (.string u)) O id la ki wi v u pr := by
  simpa [OutAt] using heap_setCell_same w O 5 _ 71 (.string u) h
theorem OutAt.to {w : World} {O : Nat} {id la ki wi pr id' la' ki' wi' pr' : Int} {v : Value} {lab : ByteArray} (h : OutAt w O id la ki wi v lab pr) (h0 : id = id') (h1 : la = la') (h2 : ki = ki') (h3 : wi = wi') (h4 : pr = pr') : OutAt w O id' la' ki' wi' v lab pr' := by
  subst h0 h1 h2 h3 h4; exact h
theorem Keeps.set7U {s r : Nat} {w w' : World} {v0 v1 v2 v3 v4 v5 v6 : Value} (h : Keeps s w w') (hr : w.heap.size ≤ r) : Keeps s w ((((((((w'.setCell ⟨r, 0, none⟩ v0).setCell ⟨r, 1, none⟩ v1).setCell ⟨r, 2, none⟩ v2).setCell ⟨r, 3, none⟩ v3).setCell ⟨r, 4, none⟩ v4).setCell ⟨r, 5, none⟩ v5).setCell ⟨r, 6, none⟩ v6)) :=
  keepsNew h (below7 (Below.refl w.heap.size w') hr) (Nat.le_refl _)
theorem UpAt.set7U {p B n r : Nat} {Z : Nat → Int} {w : World} {v0 v1 v2 v3 v4 v5 v6 : Value} (h : UpAt w p B n Z) (hr : p < r) (hB : B ≤ p) : UpAt ((((((((w.setCell ⟨r, 0, none⟩ v0).setCell ⟨r, 1, none⟩ v1).setCell ⟨r, 2, none⟩ v2).setCell ⟨r, 3, none⟩ v3).setCell ⟨r, 4, none⟩ v4).setCell ⟨r, 5, none⟩ v5).setCell ⟨r, 6, none⟩ v6)) p B n Z :=
  h.belowB (below7 (Below.refl r w) (Nat.le_refl _)) hr hB
theorem Row.setLow {base r o : Nat} {w : World} {v u : Value} {l : List (Int × Int)} (h : Row base w v l) (hr : r < base) : Row base (w.setCell ⟨r, o, none⟩ u) v l :=
  ownsRow_of h fun g hg => Below.heap_setCell _ _ _ _ (by have := (h.lt g hg).1; show g ≠ r; omega)
/-- Some bytes are taken, or there are not so many. -/
def TakenP (p B n c : Nat) (Z : Nat → Int) (w : World) (e : Ending) (w' : World) : Prop :=
  if n < c then Pan e ∧ Keeps p w w' else ∃ g, e = .returned (.slice (some ⟨g, 0, none⟩) c c) ∧ BsAt w' g 0 c Z ∧ UpAt w' p B (n - c) (fun i => Z (i + c)) ∧ Keeps p w w'
theorem take_any (p B n c : Nat) (Z : Nat → Int) (w : World) (h : UpAt w p B n Z) (hB : B ≤ p) (hp : p < w.heap.size) (hmax : n ≤ 1048576) (hcm : c ≤ 1048576) :
    Calls Try.prog 64 #[.pointer (some ⟨p, 0, none⟩), .int .u64 (c : Int)] w fun e w' => TakenP p B n c Z w e w' := by
  by_cases hc : n < c
  · refine (take_none p B n c Z w h hc hmax hcm).mono ?_
    rintro e w' ⟨he, rfl⟩
    unfold TakenP
    rw [if_pos hc]
    exact ⟨he, Keeps.refl _ _⟩
  · by_cases hc0 : c = 0
    · subst hc0
      refine (take_zero p B n Z w h hB hp hmax).mono ?_
      rintro e w' ⟨g, he, hu, hk⟩
      unfold TakenP
      rw [if_neg hc]
      exact ⟨g, he, fun i hi => absurd hi (Nat.not_lt_zero _), hu.to (by omega) (fun i => rfl), hk⟩
    · refine (take_some p B n c Z w h hB hp (by omega) (by omega) hmax).mono ?_
      rintro e w' ⟨g, he, _, _, hb, hu, hk⟩
      unfold TakenP
      rw [if_neg hc]
      exact ⟨g, he, hb, hu, hk⟩
theorem rdFeat_ns {Z : Nat → Int} {n o : Nat} {l : List Nat} (h : rdNs Z 5 n 0 = some (l, o)) : rdFeat Z n = (rdLab Z n o).bind fun b => (rdAll (fun i => Z (i + b.2)) (n - b.2)).map fun c => (⟨l, strOfNums b.1, c.1⟩, b.2 + c.2) := by simp [rdFeat, h]
theorem resF (T : Array Value) (Wf : World) (r : Nat) (v0 v1 v2 v3 v4 v5 v6 : Value) (hT : T[2]?.getD undef = .pointer (some ⟨r, 0, none⟩)) (h0 : Wf.cell? ⟨r, 0, none⟩ = some v0) (h1 : Wf.cell? ⟨r, 1, none⟩ = some v1) (h2 : Wf.cell? ⟨r, 2, none⟩ = some v2) (h3 : Wf.cell? ⟨r, 3, none⟩ = some v3) (h4 : Wf.cell? ⟨r, 4, none⟩ = some v4) (h5 : Wf.cell? ⟨r, 5, none⟩ = some v5) (h6 : Wf.cell? ⟨r, 6, none⟩ = some v6) :
    (results Try.f66 T).run Try.prog Wf = .ok (.agg #[v0, v1, v2, v3, v4, v5, v6]) Wf := by
  simp [results, Try.results66, go_sem, hT, h0, h1, h2, h3, h4, h5, h6]
set_option maxHeartbeats 8000000 in
theorem feature_any (p B n : Nat) (Z : Nat → Int) (w : World) (h : UpAt w p B n Z) (hB : B ≤ p) (hp : p < w.heap.size) (hr : ∀ i, 0 ≤ Z i ∧ Z i ≤ 255) (hmax : n ≤ 1048576) :
    Calls Try.prog 66 #[.pointer (some ⟨p, 0, none⟩)] w fun e w' => FeatP (rdFeat Z n) p B n Z w e w' := by
  have HUP : Hid (UpAt w p B n Z) := h
  have HRG : Hid (∀ i, 0 ≤ Z i ∧ Z i ≤ 255) := hr
  clear h hr
  go_enter Try.func66, Try.ntmps66
  go_wp2_with fail
  generalize hW : (World.alloc _ _ : World) = W
  have HS0 : Hid (FSt w p B n Z 0 [] W) := by
    subst hW
    have hb : Below w.heap.size w _ := bl_alloc (bl_alloc (Below.refl w.heap.size w) (.cells #[.int .i64 0, .int .i64 0, .int .i64 0, .int .i64 0, .slice none 0 0, .string ByteArray.empty, .int .i64 0] 71)) (.cells #[.int .i64 0, .int .i64 0, .int .i64 0, .int .i64 0, .slice none 0 0, .string ByteArray.empty, .int .i64 0] 71)
    refine ⟨(there7 w _ _ _ _ _ _ _ _).below (bl_alloc (Below.refl _ _) _), ?_, (HUP.out.belowB hb hp hB).to (by omega) (fun i => rfl), Keeps.of_below hb, by simp⟩
    have h := (MapKept.heap_alloc (w.alloc (.cells #[.int .i64 0, .int .i64 0, .int .i64 0, .int .i64 0, .slice none 0 0, .string ByteArray.empty, .int .i64 0] 71)) (.cells #[.int .i64 0, .int .i64 0, .int .i64 0, .int .i64 0, .slice none 0 0, .string ByteArray.empty, .int .i64 0] 71)).1
    simp only [World.size_alloc] at h
    exact h
  clear hW
  go_loopw [13] (fun i wr => ∃ (k o : Nat) (l : List Nat), k ≤ 5 ∧ i = .int .i64 (k : Int) ∧ l.length = k ∧ o ≤ n ∧ FSt w p B n Z o l wr ∧ rdNs Z 5 n 0 = (rdNs Z (5 - k) n o).map fun r => (l ++ r.1, r.2)) (fun i _ => 5 - (intOf i).toNat)
  case atStart => exact ⟨0, 0, [], by omega, rfl, rfl, by omega, HS0.out, by cases rdNs Z 5 n 0 <;> simp⟩
  case round =>
    obtain ⟨k, o, l, hk, rfl, hl, ho, hS, hall⟩ := hrel
    have HS : Hid (FSt w p B n Z o l wr) := hS
    have HA : Hid (rdNs Z 5 n 0 = (rdNs Z (5 - k) n o).map fun r => (l ++ r.1, r.2)) := hall
    have hsz := hS.sz
    clear hS hall HS0
    have hpr : p < wr.heap.size := by omega
    by_cases hlt : k < 5
    · have HN : Hid (Calls Try.prog 88 #[.pointer (some ⟨p, 0, none⟩)] wr fun e w' => NumP p B (n - o) (fun i => Z (i + o)) wr e w') := number_any p B (n - o) (fun i => Z (i + o)) wr HS.out.U hB hpr (fun i => HRG.out _) (by omega)
      obtain ⟨J, hat, hJ⟩ : ∃ J : Nat, (∀ w', (Instr.index 125 (Value.agg #[.pointer (some ⟨w.heap.size + 1, 0, none⟩), .pointer (some ⟨w.heap.size + 1, 1, none⟩), .pointer (some ⟨w.heap.size + 1, 2, none⟩), .pointer (some ⟨w.heap.size + 1, 3, none⟩), .pointer (some ⟨w.heap.size + 1, 6, none⟩)]) (.int .i64 (k : Int))).run Try.prog w' = .ok (.pointer (some ⟨w.heap.size + 1, J, none⟩)) w') ∧ (k = 0 ∧ J = 0 ∨ k = 1 ∧ J = 1 ∨ k = 2 ∧ J = 2 ∨ k = 3 ∧ J = 3 ∨ k = 4 ∧ J = 6) := by
        rcases (by omega : k = 0 ∨ k = 1 ∨ k = 2 ∨ k = 3 ∨ k = 4) with rfl | rfl | rfl | rfl | rfl
        · exact ⟨0, fun _ => by kernel_rfl, by omega⟩
        · exact ⟨1, fun _ => by kernel_rfl, by omega⟩
        · exact ⟨2, fun _ => by kernel_rfl, by omega⟩
        · exact ⟨3, fun _ => by kernel_rfl, by omega⟩
        · exact ⟨6, fun _ => by kernel_rfl, by omega⟩
      have HJ : Hid (k = 0 ∧ J = 0 ∨ k = 1 ∧ J = 1 ∨ k = 2 ∧ J = 2 ∨ k = 3 ∧ J = 3 ∨ k = 4 ∧ J = 6) := hJ
      have hi' : (k : Int) < 5 := by omega
      clear hJ
      cases hd : rd (fun i => Z (i + o)) (n - o) with
      | none =>
        have HD : Hid (rd (fun i => Z (i + o)) (n - o) = none) := hd
        have HF : Hid (rdFeat Z n = none) := by
          show _ = _
          rw [rdFeat, HA.out, show 5 - k = (4 - k) + 1 by omega, rdNs_none hd]
          rfl
        clear hd
        go_wp2_with fail
        refine Calls.mono HN.out ?_
        intro e w1 hq
        unfold NumP at hq
        rw [HD.out] at hq
        obtain ⟨⟨u, pv, rfl⟩, hk2⟩ := hq
        exact ⟨rfl, FeatP.none HF.out ⟨_, _, rfl⟩ (HS.out.K.trans hk2)⟩
      | some dd =>
        have hbd := rd_bd hd
        obtain ⟨dx, dn⟩ := dd
        have HD : Hid (rd (fun i => Z (i + o)) (n - o) = some (dx, dn)) := hd
        have hb1 : dx ≤ 1099511627776 := hbd.1
        have hb2 : dn ≤ n - o := hbd.2.2.1
        have hw0 : IntKind.i64.wrap (dx : Int) = (dx : Int) := IntWalk.i64_in _ (by omega)
        clear hd hbd
        go_wp2_with fail
        refine Calls.mono HN.out ?_
        intro e w1 hq
        unfold NumP at hq
        rw [HD.out] at hq
        obtain ⟨rfl, hu, hk2⟩ := hq
        have HS1 : Hid (FSt w p B n Z (o + dn) l w1) := HS.out.read hp hk2 (hu.to (by omega) (fun i => by show Z _ = Z _; congr 1; omega))
        have gf := HS1.out.O.fz J
        obtain ⟨gu, g0⟩ : ∃ gu, w1.cell? ⟨w.heap.size + 1, J, none⟩ = some gu := by
          have h := HS1.out.O.cells.1
          rcases HJ.out with ⟨_, rfl⟩ | ⟨_, rfl⟩ | ⟨_, rfl⟩ | ⟨_, rfl⟩ | ⟨_, rfl⟩
          · exact ⟨_, h.1⟩
          · exact ⟨_, h.2.1⟩
          · exact ⟨_, h.2.2.1⟩
          · exact ⟨_, h.2.2.2.1⟩
          · exact ⟨_, h.2.2.2.2.2.2⟩
        have HS2 : Hid (FSt w p B n Z (o + dn) (l ++ [dx]) (w1.setCell ⟨w.heap.size + 1, J, none⟩ (.int .i64 (dx : Int)))) := by
          have h := HS1.out.O.setAt (dx : Int)
          refine HS1.out.set hp hB J _ ?_
          rcases HJ.out with ⟨hk0, rfl⟩ | ⟨hk0, rfl⟩ | ⟨hk0, rfl⟩ | ⟨hk0, rfl⟩ | ⟨hk0, rfl⟩
          · exact h.1.to (by rw [getD_app hl, hk0]; simp) (by rw [getD_app hl, hk0]; simp) (by rw [getD_app hl, hk0]; simp) (by rw [getD_app hl, hk0]; simp) (by rw [getD_app hl, hk0]; simp)
          · exact h.2.1.to (by rw [getD_app hl, hk0]; simp) (by rw [getD_app hl, hk0]; simp) (by rw [getD_app hl, hk0]; simp) (by rw [getD_app hl, hk0]; simp) (by rw [getD_app hl, hk0]; simp)
          · exact h.2.2.1.to (by rw [getD_app hl, hk0]; simp) (by rw [getD_app hl, hk0]; simp) (by rw [getD_app hl, hk0]; simp) (by rw [getD_app hl, hk0]; simp) (by rw [getD_app hl, hk0]; simp)
          · exact h.2.2.2.1.to (by rw [getD_app hl, hk0]; simp) (by rw [getD_app hl, hk0]; simp) (by rw [getD_app hl, hk0]; simp) (by rw [getD_app hl, hk0]; simp) (by rw [getD_app hl, hk0]; simp)
          · exact h.2.2.2.2.to (by rw [getD_app hl, hk0]; simp) (by rw [getD_app hl, hk0]; simp) (by rw [getD_app hl, hk0]; simp) (by rw [getD_app hl, hk0]; simp) (by rw [getD_app hl, hk0]; simp)
        have HA2 : Hid (rdNs Z 5 n 0 = (rdNs Z (5 - (k + 1)) n (o + dn)).map fun r => ((l ++ [dx]) ++ r.1, r.2)) := by
          show _ = _
          rw [HA.out, show 5 - k = (4 - k) + 1 by omega, rdNs_some HD.out, show 5 - (k + 1) = 4 - k by omega]
          cases rdNs Z (4 - k) n (o + dn) <;> simp
        clear hu hk2 HN HA HD HS HS1
        go_wp2_with fail
        go_roundw
        case rel => exact ⟨k + 1, o + dn, _, by omega, by first | go_num | rfl, by simp [hl], by omega, HS2.out, HA2.out⟩
        case measure => simp [intOf] <;> omega
    · have hke : k = 5 := by omega
      subst hke
      have HL : Hid (rdNs Z 5 n 0 = some (l, o)) := by
        show _ = _
        rw [HA.out, Nat.sub_self]
        simp [rdNs]
      have HF0 := rdFeat_ns HL.out
      clear HA
      go_wp2_with fail
      refine (numberUpTo_any 6 p B (n - o) (fun i => Z (i + o)) wr HS.out.U hB hpr (fun i => HRG.out _) (by omega)).mono ?_
      intro e w1 hq
      cases hd : rdUp 6 (fun i => Z (i + o)) (n - o) with
      | none =>
        rw [hd] at hq
        obtain ⟨⟨u, pv, rfl⟩, hk2⟩ := hq
        exact ⟨rfl, FeatP.none (by rw [HF0]; simp [rdLab, hd]) ⟨_, _, rfl⟩ (HS.out.K.trans hk2)⟩
      | some dd =>
        have hbd := rdUp_bd hd
        obtain ⟨c, cn⟩ := dd
        rw [hd] at hq
        obtain ⟨rfl, hu2, hk2⟩ := hq
        have hb1 : c ≤ 6 := hbd.1
        have hb2 : cn ≤ n - o := hbd.2.2.1
        have HS1 : Hid (FSt w p B n Z (o + cn) l w1) := HS.out.read hp hk2 (hu2.to (by omega) (fun i => by show Z _ = Z _; congr 1; omega))
        have hp1 : p < w1.heap.size := by have := HS1.out.sz; omega
        have HD : Hid (rdUp 6 (fun i => Z (i + o)) (n - o) = some (c, cn)) := hd
        have HF1 : Hid (rdFeat Z n = (rdLab Z n o).bind fun b => (rdAll (fun i => Z (i + b.2)) (n - b.2)).map fun c => (⟨l, strOfNums b.1, c.1⟩, b.2 + c.2)) := HF0
        clear hu2 hk2 hd hbd HS HF0
        go_wp2_with fail
        refine (take_any p B (n - (o + cn)) c (fun i => Z (i + (o + cn))) w1 HS1.out.U hB hp1 (by omega) (by omega)).mono ?_
        intro e w2 hq
        unfold TakenP at hq
        by_cases hcut : n - (o + cn) < c
        · rw [if_pos hcut] at hq
          obtain ⟨⟨u, pv, rfl⟩, hk2⟩ := hq
          exact ⟨rfl, FeatP.none (by rw [HF1.out]; simp [rdLab, HD.out, hcut]) ⟨_, _, rfl⟩ (HS1.out.K.trans hk2)⟩
        · rw [if_neg hcut] at hq
          obtain ⟨g, rfl, hbs, hu2, hk2⟩ := hq
          have HLab : Hid (rdLab Z n o = some ((List.range c).map (fun i => Z (i + (o + cn))), o + cn + c)) := by
            show _ = _
            simp [rdLab, HD.out, hcut]
          have HS2 : Hid (FSt w p B n Z (o + cn + c) l w2) := HS1.out.read hp hk2 (hu2.to (by omega) (fun i => by show Z _ = Z _; congr 1; omega))
          have hcv : (convert 22 9 (.slice (some ⟨g, 0, none⟩) c c)).run Try.prog w2 = .ok (.string (strOfNums ((List.range c).map (fun i => Z (i + (o + cn)))))) w2 := run_convert_bytes_arg w2 22 5 Try.underlying22 Try.underlying5 g 0 c c _ (by simp) (fun i hi => by
            have := hbs i hi
            rw [this]
            simp [List.getD, hi]) 9 Try.underlying9
          generalize (List.range c).map (fun i => Z (i + (o + cn))) = xs at HLab hcv
          generalize hLB : strOfNums xs = LB at hcv
          have HLB : Hid (strOfNums xs = LB) := hLB
          have g5 := HS2.out.O.cells.1.2.2.2.2.2.1
          have gf5 := HS2.out.O.fz 5
          clear hbs hu2 hk2 HS1 hLB HD
          go_wp2_with fail
          have hbl : Below w.heap.size w2 (w2.setCell ⟨w.heap.size + 1, 5, none⟩ (.string LB)) := (Below.refl w.heap.size w2).setCell (p := ⟨w.heap.size + 1, 5, none⟩) (Nat.le_succ _) (.string LB)
          have HT3 : Hid (There (w2.setCell ⟨w.heap.size + 1, 5, none⟩ (.string LB)) w.heap.size 7) := HS2.out.T.offU (by omega)
          have HO3 : Hid (OutAt (w2.setCell ⟨w.heap.size + 1, 5, none⟩ (.string LB)) (w.heap.size + 1) (l.getD 0 0 : Nat) (l.getD 1 0 : Nat) (l.getD 2 0 : Nat) (l.getD 3 0 : Nat) (.slice none 0 0) LB (l.getD 4 0 : Nat)) := HS2.out.O.lab LB
          have HU3 : Hid (UpAt (w2.setCell ⟨w.heap.size + 1, 5, none⟩ (.string LB)) p B (n - (o + cn + c)) (fun i => Z (i + (o + cn + c)))) := HS2.out.U.belowB hbl hp hB
          have HK3 : Hid (Keeps p w (w2.setCell ⟨w.heap.size + 1, 5, none⟩ (.string LB))) := keepsNew HS2.out.K hbl (Nat.le_refl _)
          have hs3 : w.heap.size + 2 ≤ (w2.setCell ⟨w.heap.size + 1, 5, none⟩ (.string LB)).heap.size := Nat.le_trans HS2.out.sz hbl.size
          generalize w2.setCell ⟨w.heap.size + 1, 5, none⟩ (.string LB) = W3 at HT3 HO3 HU3 HK3 hs3 ⊢
          clear hbl HS2 g5 gf5 hcv
          refine (points_any p B (n - (o + cn + c)) (fun i => Z (i + (o + cn + c))) W3 HU3.out hB (by omega) (fun i => HRG.out _) (by omega)).mono ?_
          intro e w4 hq
          cases hd3 : rdAll (fun i => Z (i + (o + cn + c))) (n - (o + cn + c)) with
          | none =>
            rw [hd3] at hq
            obtain ⟨⟨u, pv, rfl⟩, hk2⟩ := hq
            exact ⟨rfl, FeatP.none (by rw [HF1.out, HLab.out]; simp [hd3]) ⟨_, _, rfl⟩ (HK3.out.trans hk2)⟩
          | some dd =>
            obtain ⟨pts, pn⟩ := dd
            rw [hd3] at hq
            obtain ⟨v, rfl, hR, hu2, hk2⟩ := hq
            have HX : Hid (rdFeat Z n = some (⟨l, LB, pts⟩, o + cn + c + pn)) := by
              show _ = _
              rw [HF1.out, HLab.out]
              simp [hd3, HLB.out]
            have HT4 : Hid (There w4 w.heap.size 7) := HT3.out.keepsU hk2 (by omega) (by omega)
            have HO4 : Hid (OutAt w4 (w.heap.size + 1) (l.getD 0 0 : Nat) (l.getD 1 0 : Nat) (l.getD 2 0 : Nat) (l.getD 3 0 : Nat) (.slice none 0 0) LB (l.getD 4 0 : Nat)) := (hk2.block _ (by omega) (by omega)).trans HO3.out
            have HU4 : Hid (UpAt w4 p B (n - (o + cn + c + pn)) (fun i => Z (i + (o + cn + c + pn)))) := hu2.to (by omega) (fun i => by show Z _ = Z _; congr 1; omega)
            have HK4 : Hid (Keeps p w w4) := HK3.out.trans hk2
            have hR' : Row (w.heap.size + 2) w4 v pts := hR.wide hs3
            have HR4 : Hid (Row (w.heap.size + 2) w4 v pts) := hR'
            obtain ⟨a6, c6, hv6, _, _⟩ := hR'.own
            have hs4 : w.heap.size + 2 ≤ w4.heap.size := Nat.le_trans hs3 hk2.size
            obtain ⟨⟨o0, o1, o2, o3, o4, o5, o6⟩, of4⟩ := HO4.out.cells
            have t0 := HT4.out.cell 0 (by omega)
            have t1 := HT4.out.cell 1 (by omega)
            have t2 := HT4.out.cell 2 (by omega)
            have t3 := HT4.out.cell 3 (by omega)
            have t4 := HT4.out.cell 4 (by omega)
            have t5 := HT4.out.cell 5 (by omega)
            have t6 := HT4.out.cell 6 (by omega)
            have f0 := (HT4.out 0 (by omega)).2
            have f1 := (HT4.out 1 (by omega)).2
            have f2 := (HT4.out 2 (by omega)).2
            have f3 := (HT4.out 3 (by omega)).2
            have f4 := (HT4.out 4 (by omega)).2
            have f5 := (HT4.out 5 (by omega)).2
            have f6 := (HT4.out 6 (by omega)).2
            clear hR hR' hu2 hk2 hd3 HT3 HO3 HU3 HK3 HF1 HLab HLB
            generalize hpl : pts.length = pl at hv6
            subst hv6
            clear hpl
            generalize hl0 : l.getD 0 0 = l0 at HO4 o0
            generalize hl1 : l.getD 1 0 = l1 at HO4 o1
            generalize hl2 : l.getD 2 0 = l2 at HO4 o2
            generalize hl3 : l.getD 3 0 = l3 at HO4 o3
            generalize hl4 : l.getD 4 0 = l4 at HO4 o6
            have HV : Hid (FeatV ⟨l, LB, pts⟩ (.slice a6 pl c6) = .agg #[.int .i64 (l0 : Int), .int .i64 (l1 : Int), .int .i64 (l2 : Int), .int .i64 (l3 : Int), .slice a6 pl c6, .string LB, .int .i64 (l4 : Int)]) := by
              show _ = _
              simp only [FeatV, hl0, hl1, hl2, hl3, hl4]
            clear hl0 hl1 hl2 hl3 hl4
            go_wp2_with fail
            have hb4 : Below w.heap.size w4 (w4.setCell ⟨w.heap.size + 1, 4, none⟩ (.slice a6 pl c6)) := (Below.refl w.heap.size w4).setCell (p := ⟨w.heap.size + 1, 4, none⟩) (Nat.le_succ _) _
            have HT5 : There (w4.setCell ⟨w.heap.size + 1, 4, none⟩ (.slice a6 pl c6)) w.heap.size 7 := HT4.out.offU (by omega)
            obtain ⟨y0, y1, y2, y3, y4, y5, y6⟩ := set7_at (v0 := .int .i64 (l0 : Int)) (v1 := .int .i64 (l1 : Int)) (v2 := .int .i64 (l2 : Int)) (v3 := .int .i64 (l3 : Int)) (v4 := .slice a6 pl c6) (v5 := .string LB) (v6 := .int .i64 (l4 : Int)) HT5
            refine bodyPost_ret (resF _ _ w.heap.size _ _ _ _ _ _ _ rfl y0 y1 y2 y3 y4 y5 y6) rfl (FeatP.some HX.out (by rw [HV.out]) ((HR4.out.setLow (by omega)).set7 (by omega) (by omega)) ((HU4.out.belowB hb4 hp hB).set7U hp hB) ((keepsNew HK4.out hb4 (Nat.le_refl _)).set7U (Nat.le_refl _)))
end Go.Proofs.Ytcbpaockahkakaa
