/- The program places labels: which features have one that is seen, sorted, and whether there is room. -/
import Derived.Test.YtdohlnnbibnnbaaGreatVPlaceLabels43
import Derived.Test.YtdohlnnbibnnbaaGreatVPlaceLabels44
namespace Go.Proofs.YtdohlnnbibnnbaaGreat
open Go.RowKit
set_option linter.unusedSimpArgs false
set_option linter.unusedVariables false
set_option maxRecDepth 100000

set_option maxHeartbeats 4000000 in
theorem sees_any (z x y wd ht px_ py_ : Int) (w : World) (hx : IntKind.i64.wrap (x + wd) = x + wd) (hx' : IntKind.i64.wrap (x + wd - 1) = x + wd - 1) (hy : IntKind.i64.wrap (y + ht) = y + ht) (hy' : IntKind.i64.wrap (y + ht - 1) = y + ht - 1) :
    Calls Tryz.prog 68 #[camV z x y wd ht, .agg #[.int .i64 px_, .int .i64 py_]] w fun e w' => e = .returned (.bool (inB px_ x (x + wd - 1) && inB py_ y (y + ht - 1))) ∧ Below w.heap.size w w' := by
  have hk : Hid ((inB px_ x (x + wd - 1) && inB py_ y (y + ht - 1)) = (inB px_ x (x + wd - 1) && inB py_ y (y + ht - 1))) := rfl
  cases h1 : inB px_ x (x + wd - 1) <;> cases h2 : inB py_ y (y + ht - 1)
  all_goals
    go_enter Tryz.func68, Tryz.ntmps68
    go_wp2_with (go_at_call 92; refine (isWithin_any _ _ _ _).mono ?_; rintro e w' ⟨rfl, rfl⟩)
    go_ret
    exact ⟨by first | rfl | simp [h1, h2], by (repeat (first | exact Below.refl _ _ | assumption | refine Below.drew ?_ | refine bl_alloc ?_ _ | refine bl_then ?_ (by assumption) | refine Below.setCell ?_ (by first | omega | (simp; done) | (simp; omega)) _ | refine bl_store ?_ ?_ _ _))⟩
theorem _root_.Go.World.ownsRow.belowL {base s n : Nat} {t : TypeId} {w w' : World} {v : Value} {xs : List Value} (h : w.ownsRow base t s v n xs) (hb : Below w.heap.size w w') : w'.ownsRow base t s v n xs := by
  obtain ⟨h1, h2 | ⟨g, cp, cur, hv, hg, hh, h3⟩⟩ := h
  · exact ⟨h1, .inl h2⟩
  · exact ⟨h1, .inr ⟨g, cp, cur, hv, hg, (hb.block g (Array.getElem?_eq_some_iff.1 hh).1).trans hh, h3⟩⟩
theorem PRow.wide {base base' : Nat} {w : World} {v : Value} {L : List Plc} (h : PRow base w v L) (hb : base' ≤ base) : PRow base' w v L := by
  obtain ⟨h1, h2 | ⟨g, cp, cur, hv, hg, hh, h3⟩⟩ := h
  · exact ⟨h1, .inl h2⟩
  · exact ⟨h1, .inr ⟨g, cp, cur, hv, Nat.le_trans hb hg, hh, h3⟩⟩
theorem seenP_filter (x y wd ht : Int) (B : Nat → Plc) (l : List Nat) : plsP x y wd ht B l = plsP x y wd ht B (l.filter (fun i => seenP x y wd ht (B i))) := by
  unfold plsP
  generalize ([] : List Plc) = L
  induction l generalizing L with
  | nil => rfl
  | cons i r ih =>
    rw [List.foldl_cons, List.filter_cons]
    by_cases h : seenP x y wd ht (B i) = true
    · rw [if_pos h, List.foldl_cons]; exact ih _
    · rw [if_neg h]
      have e : stepP x y wd ht B L i = L := by unfold stepP; rw [if_neg h]
      rw [e]; exact ih _
/-- Which features have a label that is seen. -/
def okI (x y wd ht : Int) (B : Nat → Plc) (n : Nat) : List Nat := (List.range n).filter (fun i => seenP x y wd ht (B i))
theorem okI_succ (x y wd ht : Int) (B : Nat → Plc) (n : Nat) : okI x y wd ht B (n + 1) = if seenP x y wd ht (B n) = true then okI x y wd ht B n ++ [n] else okI x y wd ht B n := by
  unfold okI
  rw [List.range_succ, List.filter_append]
  by_cases h : seenP x y wd ht (B n) = true
  · rw [if_pos h]; simp [h]
  · rw [if_neg h]; simp [h]
theorem okI_len (x y wd ht : Int) (B : Nat → Plc) (n : Nat) : (okI x y wd ht B n).length ≤ n := by
  have := List.length_filter_le (fun i => seenP x y wd ht (B i)) (List.range n)
  simpa [okI] using this
/-- What was chosen and sorted is what was sorted and chosen. -/
theorem srtL_ok (n : Nat) (T : Nat → Feat) (hap : apartK (fun i => (T i).id) n) (p : Nat → Bool) (l : List Nat) (hl : l.Perm (List.range ((List.range n).filter p).length)) (hs : l.Pairwise (fun a b => ltK (fun i => (T (((List.range n).filter p).getD i 0)).pr) (fun i => (T (((List.range n).filter p).getD i 0)).id) b a = false)) :
    l.map (fun i => ((List.range n).filter p).getD i 0) = (srtL n T).filter p := by
  generalize hF : (List.range n).filter p = F at *
  have e1 : (List.range F.length).map (fun i => F.getD i 0) = F := by
    apply List.ext_getElem
    · simp
    · intro i h1 h2
      simp at h1
      simp [List.getD_eq_getElem?_getD, h1]
  have hp : (l.map (fun i => F.getD i 0)).Perm ((srtL n T).filter p) := by
    have h1 := hl.map (fun i => F.getD i 0)
    rw [e1, ← hF] at h1
    rw [← hF]
    exact h1.trans ((srtK_perm (fun i => (T i).pr) (fun i => (T i).id) n).symm.filter p)
  have hlt : ∀ a, a ∈ (srtL n T).filter p → a < n := fun a ha => (srtK_mem _ _ n a).1 (List.mem_filter.1 ha).1
  refine List.Perm.eq_of_pairwise (le := fun a b => ltK (fun i => (T i).pr) (fun i => (T i).id) b a = false) (fun a b ha hb h1 h2 => ?_) ?_ ?_ hp
  · have ha' := hlt a (hp.mem_iff.1 ha)
    have hb' := hlt b hb
    rw [ltK_no] at h1 h2
    refine hap a b ha' hb' ?_
    show (T a).id = (T b).id
    omega
  · rw [List.pairwise_map]
    exact hs.imp (fun h => h)
  · refine List.Pairwise.filter _ ((srtK_sorted (fun i => (T i).pr) (fun i => (T i).id) n hap).imp (fun {a b} hab => ?_))
    rw [ltK_iff] at hab
    rw [ltK_no]
    omega
theorem cellsF_map (H : Nat → Feat) (f : Nat → Nat) (l : List Nat) : cellsF H (l.map f) = cellsF (fun j => H (f j)) l := by
  induction l with
  | nil => rfl
  | cons i r ih => rw [List.map_cons, cellsF_cons, cellsF_cons, ih]
theorem cellsF_range (T : Nat → Feat) (l : List Nat) : cellsF T l = cellsF (fun j => T (l.getD j 0)) (List.range l.length) := by
  have e1 : (List.range l.length).map (fun i => l.getD i 0) = l := by
    apply List.ext_getElem
    · simp
    · intro i h1 h2
      simp at h1
      simp [List.getD_eq_getElem?_getD, h1]
  have := cellsF_map T (fun i => l.getD i 0) (List.range l.length)
  rw [e1] at this
  exact this
theorem FRow.byRange {base : Nat} {w : World} {v : Value} {T : Nat → Feat} {l : List Nat} (h : FRow base w v T l) : FRow base w v (fun j => T (l.getD j 0)) (List.range l.length) := by
  unfold FRow at h ⊢
  rw [List.length_range, ← cellsF_range]
  exact h
set_option maxHeartbeats 16000000 in
theorem placedIn_any (ga : Option Addr) (n cap : Nat) (T : Nat → Feat) (z x y wd ht : Int) (w : World) (hg : n = 0 ∨ ∃ b, ga = some ⟨b, 0, none⟩ ∧ b < w.heap.size ∧ FsAt w b 0 n T) (hn : n ≤ 1000) (hap : apartK (fun i => (T i).id) n) (hz : zoomB z = true) (hw : camB z x y wd ht = true)
    (hpt : ∀ i, i < n → 0 < (T i).n ∧ inW ((T i).X 0) ((T i).Y 0) = true ∧ (T i).lab.size ≤ 1048576) :
    Calls Tryz.prog 29 #[camV z x y wd ht, .slice ga n cap] w fun e w' => ∃ v, e = .returned v ∧ PRow w.heap.size w' v (plsP x y wd ht (lbB z T) (srtL n T)) ∧ Below w.heap.size w w' := by
  obtain ⟨i0, hi, hz0, hz1, hz2⟩ := info_parts info_if
  obtain ⟨j0, hj, hy0, hy1, hy2⟩ := info_parts info_pl
  have HG : Hid (n = 0 ∨ ∃ b, ga = some ⟨b, 0, none⟩ ∧ b < w.heap.size ∧ FsAt w b 0 n T) := hg
  have HP : Hid (∀ i, i < n → 0 < (T i).n ∧ inW ((T i).X 0) ((T i).Y 0) = true ∧ (T i).lab.size ≤ 1048576) := hpt
  have HAP : Hid (apartK (fun i => (T i).id) n) := hap
  obtain ⟨⟨⟨w1, w2⟩, w3, w4⟩, ⟨x1, x2⟩, y1, y2⟩ := camB_in hw
  have hpx := pixI_bd hz
  have HSe : Hid (∀ (a b : Int) (W : World), Calls Tryz.prog 68 #[camV z x y wd ht, .agg #[.int .i64 a, .int .i64 b]] W fun e w' => e = .returned (.bool (inB a x (x + wd - 1) && inB b y (y + ht - 1))) ∧ Below W.heap.size W w') := fun a b W =>
    sees_any z x y wd ht a b W (IntWalk.i64_in _ (by omega)) (IntWalk.i64_in _ (by omega)) (IntWalk.i64_in _ (by omega)) (IntWalk.i64_in _ (by omega))
  have HZ : Hid (zoomB z = true) := hz
  clear hg hpt hap w1 w2 w3 w4 x1 x2 y1 y2 hpx hw hz
  go_enter Tryz.func29, Tryz.ntmps29
  go_wp2_with fail
  generalize hW : (w.alloc _ : World) = W
  have HB0 : Hid (Below w.heap.size w W) := by show Below _ _ _; subst hW; (repeat (first | exact Below.refl _ _ | assumption | refine Below.drew ?_ | refine bl_alloc ?_ _ | refine bl_then ?_ (by assumption) | refine Below.setCell ?_ (by first | omega | (simp; done) | (simp; omega)) _ | refine bl_store ?_ ?_ _ _))
  have HC : Hid (CamAt W w.heap.size z x y wd ht) := by show CamAt _ _ _ _ _ _ _; subst hW; refine ⟨?_, ?_, ?_, ?_, ?_⟩ <;> simp [go_sem]
  have hWl : w.heap.size < W.heap.size := by subst hW; simp
  clear hW
  go_loopw [5, 14] (fun v i wr => ∃ k : Nat, k ≤ n ∧ i = .int .i64 (k : Int) ∧ FRow W.heap.size wr v T (okI x y wd ht (lbB z T) k) ∧ Below W.heap.size W wr) (fun _ i _ => n - (intOf i).toNat)
  case atStart => exact ⟨0, by omega, rfl, World.ownsRow_nil _ _ _ _, Below.refl _ _⟩
  case round =>
    obtain ⟨k, hk, rfl, hO, hB⟩ := hrel
    have HO : Hid (FRow W.heap.size wr u5 T (okI x y wd ht (lbB z T) k)) := hO
    have HB : Hid (Below W.heap.size W wr) := hB
    clear hO hB
    by_cases hlt : k < n
    · have HLT : Hid (k < n) := hlt
      have hok1 := okI_len x y wd ht (lbB z T) k
      have HSC := (show Hid _ from okI_succ x y wd ht (lbB z T) k)
      have HBw : Hid (Below w.heap.size w wr) := HB0.out.trans (HB.out.mono (by omega))
      have HCr : Hid (CamAt wr w.heap.size z x y wd ht) := CamAt_bl HC.out HB.out
      obtain ⟨hp0, hpin, hpl⟩ := HP.out k hlt
      obtain ⟨b, hga, hbl, hfs⟩ := HG.out.resolve_left (by omega)
      subst hga
      have hff := (hfs k hlt).1
      rw [Nat.zero_add] at hff
      obtain ⟨b', off', ha', hbl', hptk⟩ := (hfs k hlt).2.resolve_left (by omega)
      have HA' := (show Hid _ from ha')
      rw [ha'] at hff
      obtain ⟨f0, f1, f2, f3, f4, f5, f6⟩ := hff.below HBw.out hbl
      have HAn : Hid (∀ W', Below wr.heap.size wr W' → Calls Tryz.prog 69 #[.agg #[.int .i64 (T k).id, .int .i64 (T k).la, .int .i64 (T k).ki, .int .i64 (T k).wi, .slice (some ⟨b', off', none⟩) (T k).n (T k).cap, .string (T k).lab, .int .i64 (T k).pr], .int .i64 z] W' fun e w' => e = .returned (.agg #[.int .i64 (ancI z ((T k).X 0)), .int .i64 (ancI z ((T k).Y 0))]) ∧ Below W'.heap.size W' w') := fun W' h =>
        anchorAsItIs_any (T k).id (T k).la (T k).ki (T k).wi z b' (T k).n (T k).cap (T k).X (T k).Y (T k).lab (T k).pr W' (hptk.below (bl_then HBw.out h) hbl') (Nat.lt_of_lt_of_le hbl' (bl_then HBw.out h).size) hp0 hpin HZ.out
      have HSk := (show Hid _ from HSe.out (ancI z ((T k).X 0)) (ancI z ((T k).Y 0)))
      have HSP : Hid (seenP x y wd ht (lbB z T k) = (!((2 * ((T k).lab.size : Int)) == 0) && (inB (ancI z ((T k).X 0)) x (x + wd - 1) && inB (ancI z ((T k).Y 0)) y (y + ht - 1)))) := rfl
      have HLE : Hid ((T k).lab = ⟨#[]⟩ ∨ (T k).lab ≠ ⟨#[]⟩) := Classical.em _
      have hi' : (k : Int) < (n : Int) := by omega
      have hi0 : (0 : Int) ≤ (k : Int) := by omega
      clear hff hptk hfs hp0 hpin hpl ha' hlt HSe
      generalize ancI z ((T k).X 0) = ax at *
      generalize ancI z ((T k).Y 0) = ay at *
      generalize wr = wU at *
      go_upto_region 5 with fail
      generalize hV : (wU.alloc _ : World) = wV at *
      have HBV : Hid (Below wU.heap.size wU wV) := by show Below _ _ _; subst hV; (repeat (first | exact Below.refl _ _ | assumption | refine Below.drew ?_ | refine bl_alloc ?_ _ | refine bl_then ?_ (by assumption) | refine Below.setCell ?_ (by first | omega | (simp; done) | (simp; omega)) _ | refine bl_store ?_ ?_ _ _))
      have v0 : ∀ W', Below wV.heap.size wV W' → W'.cell? ⟨wU.heap.size, 0, none⟩ = some (.int .i64 (T k).id) := fun W' h => by rw [h.cell (by subst hV; simp <;> omega)]; subst hV; simp [go_sem]
      have v1 : ∀ W', Below wV.heap.size wV W' → W'.cell? ⟨wU.heap.size, 1, none⟩ = some (.int .i64 (T k).la) := fun W' h => by rw [h.cell (by subst hV; simp <;> omega)]; subst hV; simp [go_sem]
      have v2 : ∀ W', Below wV.heap.size wV W' → W'.cell? ⟨wU.heap.size, 2, none⟩ = some (.int .i64 (T k).ki) := fun W' h => by rw [h.cell (by subst hV; simp <;> omega)]; subst hV; simp [go_sem]
      have v3 : ∀ W', Below wV.heap.size wV W' → W'.cell? ⟨wU.heap.size, 3, none⟩ = some (.int .i64 (T k).wi) := fun W' h => by rw [h.cell (by subst hV; simp <;> omega)]; subst hV; simp [go_sem]
      have v4 : ∀ W', Below wV.heap.size wV W' → W'.cell? ⟨wU.heap.size, 4, none⟩ = some (.slice (some ⟨b', off', none⟩) (T k).n (T k).cap) := fun W' h => by rw [h.cell (by subst hV; simp <;> omega)]; subst hV; simp [go_sem]
      have v5 : ∀ W', Below wV.heap.size wV W' → W'.cell? ⟨wU.heap.size, 5, none⟩ = some (.string (T k).lab) := fun W' h => by rw [h.cell (by subst hV; simp <;> omega)]; subst hV; simp [go_sem]
      have v6 : ∀ W', Below wV.heap.size wV W' → W'.cell? ⟨wU.heap.size, 6, none⟩ = some (.int .i64 (T k).pr) := fun W' h => by rw [h.cell (by subst hV; simp <;> omega)]; subst hV; simp [go_sem]
      clear hV f0 f1 f2 f3 f4 f5 f6
      have hUV := HBV.out.size
      go_cut [14, 28] from 14 to 33 (fun i t wx => i = .int .i64 (k : Int) ∧ t = .bool (seenP x y wd ht (lbB z T k)) ∧ Below wV.heap.size wV wx)
      case first =>
        have c0 : ∀ W', Below wV.heap.size wV W' → W'.cell? ⟨w.heap.size, 0, none⟩ = some (.int .i64 z) := fun W' h => bl_cell (bl_then HBV.out h) HCr.out.1
        have c1 : ∀ W', Below wV.heap.size wV W' → W'.cell? ⟨w.heap.size, 1, none⟩ = some (.int .i64 x) := fun W' h => bl_cell (bl_then HBV.out h) HCr.out.2.1
        have c2 : ∀ W', Below wV.heap.size wV W' → W'.cell? ⟨w.heap.size, 2, none⟩ = some (.int .i64 y) := fun W' h => bl_cell (bl_then HBV.out h) HCr.out.2.2.1
        have c3 : ∀ W', Below wV.heap.size wV W' → W'.cell? ⟨w.heap.size, 3, none⟩ = some (.int .i64 wd) := fun W' h => bl_cell (bl_then HBV.out h) HCr.out.2.2.2.1
        have c4 : ∀ W', Below wV.heap.size wV W' → W'.cell? ⟨w.heap.size, 4, none⟩ = some (.int .i64 ht) := fun W' h => bl_cell (bl_then HBV.out h) HCr.out.2.2.2.2
        rcases HLE.out with he | he
        · have hle : (T k).lab.toList.isEmpty = true := by rw [he, ByteArray.toList_eq]; rfl
          have HSN : Hid (seenP x y wd ht (lbB z T k) = false) := by show _ = _; rw [HSP.out, he]; rfl
          clear HSP he
          refine wp_region_noPanic ?_
          refine wp_region_held_drew (S := fun W' => Below wV.heap.size wV W') (by kernel_rfl) (by have := Below.refl wV.heap.size wV; (repeat (first | exact Below.refl _ _ | assumption | refine Below.drew ?_ | refine bl_alloc ?_ _ | refine bl_then ?_ (by assumption) | refine Below.setCell ?_ (by first | omega | (simp; done) | (simp; omega)) _ | refine bl_store ?_ ?_ _ _))) (fun hHeld => ?_)
          have hX0e : Below wV.heap.size wV wV.drew := hHeld
          refine takeD (i := 0) (d := some 18) (v := ?ve0) rfl rfl (by kernel_rfl) (by kernel_rfl) (by kernel_rfl) (fun _ _ _ h => h) (Or.inl ⟨by rfl, ?hye0⟩) (by assumption) ?_
          case hye0 => (intro w hSw; (try dsimp only at hSw); go_simp <;> with_reducible rfl)
          try simp only [Act.put, List.setIfInBounds_toArray, List.set_cons_zero, List.set_cons_succ]
          refine takeD (i := 1) (d := some 19) (v := ?ve1) rfl rfl (by kernel_rfl) (by kernel_rfl) (by kernel_rfl) (fun _ _ _ h => h) (Or.inl ⟨by rfl, ?hye1⟩) (by assumption) ?_
          case hye1 => (intro w hSw; (try dsimp only at hSw); go_simp <;> with_reducible rfl)
          try simp only [Act.put, List.setIfInBounds_toArray, List.set_cons_zero, List.set_cons_succ]
          refine takeD (i := 2) (d := some 20) (v := ?ve2) rfl rfl (by kernel_rfl) (by kernel_rfl) (by kernel_rfl) (fun _ _ _ h => h) (Or.inl ⟨by rfl, ?hye2⟩) (by assumption) ?_
          case hye2 => (intro w hSw; (try dsimp only at hSw); go_simp <;> with_reducible rfl)
          try simp only [Act.put, List.setIfInBounds_toArray, List.set_cons_zero, List.set_cons_succ]
          refine takeD (i := 3) (d := some 21) (v := ?ve3) rfl rfl (by kernel_rfl) (by kernel_rfl) (by kernel_rfl) (fun _ _ _ h => h) (Or.inl ⟨by rfl, ?hye3⟩) (by assumption) ?_
          case hye3 => (intro w hSw; (try dsimp only at hSw); go_simp <;> with_reducible rfl)
          try simp only [Act.put, List.setIfInBounds_toArray, List.set_cons_zero, List.set_cons_succ]
          refine passD (i := 4) (d := some 22) rfl rfl (by kernel_rfl) (by kernel_rfl) (by kernel_rfl) (fun _ _ _ h => h) (by rfl) (by assumption) ?_
          try simp only [Act.put, List.setIfInBounds_toArray, List.set_cons_zero, List.set_cons_succ]
          refine passD (i := 5) (d := some 23) rfl rfl (by kernel_rfl) (by kernel_rfl) (by kernel_rfl) (fun _ _ _ h => h) (by rfl) (by assumption) ?_
          try simp only [Act.put, List.setIfInBounds_toArray, List.set_cons_zero, List.set_cons_succ]
          refine passD (i := 6) (d := some 24) rfl rfl (by kernel_rfl) (by kernel_rfl) (by kernel_rfl) (fun _ _ _ h => h) (by rfl) (by assumption) ?_
          try simp only [Act.put, List.setIfInBounds_toArray, List.set_cons_zero, List.set_cons_succ]
          refine passD (i := 7) (d := some 25) rfl rfl (by kernel_rfl) (by kernel_rfl) (by kernel_rfl) (fun _ _ _ h => h) (by rfl) (by assumption) ?_
          try simp only [Act.put, List.setIfInBounds_toArray, List.set_cons_zero, List.set_cons_succ]
          refine passD (i := 8) (d := some 26) rfl rfl (by kernel_rfl) (by kernel_rfl) (by kernel_rfl) (fun _ _ _ h => h) (by rfl) (by assumption) ?_
          try simp only [Act.put, List.setIfInBounds_toArray, List.set_cons_zero, List.set_cons_succ]
          refine passD (i := 9) (d := some 27) rfl rfl (by kernel_rfl) (by kernel_rfl) (by kernel_rfl) (fun _ _ _ h => h) (by rfl) (by assumption) ?_
          try simp only [Act.put, List.setIfInBounds_toArray, List.set_cons_zero, List.set_cons_succ]
          refine takeD (i := 10) (d := some 28) (v := ?ve10) rfl rfl (by kernel_rfl) (by kernel_rfl) (by kernel_rfl) (fun _ _ _ h => h) (Or.inl ⟨by rfl, ?hye10⟩) (by assumption) ?_
          case hye10 => (intro w hSw; (try dsimp only at hSw); go_simp <;> with_reducible rfl)
          try simp only [Act.put, List.setIfInBounds_toArray, List.set_cons_zero, List.set_cons_succ]
          refine wpAnyH_done (by kernel_rfl) ?_ _
          refine NoPanic.normal ?_
          go_wp2_with fail
          go_meet
          case rel => exact ⟨rfl, by rw [HSN.out], by assumption⟩
        · have hle : (T k).lab.toList.isEmpty = false := lab_ne he
          have hsz : ((2 * ((T k).lab.size : Int)) == 0) = false := by
            cases hb : ((2 * ((T k).lab.size : Int)) == 0)
            · rfl
            · have h0 : (T k).lab.size = 0 := by simp at hb; omega
              exact absurd (ByteArray.ext (Array.eq_empty_of_size_eq_zero h0)) he
          have HSN : Hid (seenP x y wd ht (lbB z T k) = (inB ax x (x + wd - 1) && inB ay y (y + ht - 1))) := by show _ = _; rw [HSP.out, hsz]; rfl
          have HAn : Hid (∀ W', Below wV.heap.size wV W' → _) := fun W' h => HAn.out W' (bl_then HBV.out h)
          have HSe := HSk
          clear HSP he hsz
          generalize (inB ax x (x + wd - 1) && inB ay y (y + ht - 1)) = sb at *
          refine wp_region_noPanic ?_
          refine wp_region_held_drew (S := fun W' => Below wV.heap.size wV W') (by kernel_rfl) (by have := Below.refl wV.heap.size wV; (repeat (first | exact Below.refl _ _ | assumption | refine Below.drew ?_ | refine bl_alloc ?_ _ | refine bl_then ?_ (by assumption) | refine Below.setCell ?_ (by first | omega | (simp; done) | (simp; omega)) _ | refine bl_store ?_ ?_ _ _))) (fun hHeld => ?_)
          have hX0n : Below wV.heap.size wV wV.drew := hHeld
          refine takeD (i := 0) (d := some 18) (v := ?vn0) rfl rfl (by kernel_rfl) (by kernel_rfl) (by kernel_rfl) (fun _ _ _ h => h) (Or.inl ⟨by rfl, ?hyn0⟩) (by assumption) ?_
          case hyn0 => (intro w hSw; (try dsimp only at hSw); go_simp <;> with_reducible rfl)
          try simp only [Act.put, List.setIfInBounds_toArray, List.set_cons_zero, List.set_cons_succ]
          refine takeD (i := 1) (d := some 19) (v := ?vn1) rfl rfl (by kernel_rfl) (by kernel_rfl) (by kernel_rfl) (fun _ _ _ h => h) (Or.inl ⟨by rfl, ?hyn1⟩) (by assumption) ?_
          case hyn1 => (intro w hSw; (try dsimp only at hSw); go_simp <;> with_reducible rfl)
          try simp only [Act.put, List.setIfInBounds_toArray, List.set_cons_zero, List.set_cons_succ]
          refine takeD (i := 2) (d := some 20) (v := ?vn2) rfl rfl (by kernel_rfl) (by kernel_rfl) (by kernel_rfl) (fun _ _ _ h => h) (Or.inl ⟨by rfl, ?hyn2⟩) (by assumption) ?_
          case hyn2 => (intro w hSw; (try dsimp only at hSw); go_simp <;> with_reducible rfl)
          try simp only [Act.put, List.setIfInBounds_toArray, List.set_cons_zero, List.set_cons_succ]
          refine takeD (i := 3) (d := some 21) (v := ?vn3) rfl rfl (by kernel_rfl) (by kernel_rfl) (by kernel_rfl) (fun _ _ _ h => h) (Or.inl ⟨by rfl, ?hyn3⟩) (by assumption) ?_
          case hyn3 => (intro w hSw; (try dsimp only at hSw); go_simp <;> with_reducible rfl)
          try simp only [Act.put, List.setIfInBounds_toArray, List.set_cons_zero, List.set_cons_succ]
          refine takeD (i := 4) (d := some 22) (v := ?vn4) rfl rfl (by kernel_rfl) (by kernel_rfl) (by kernel_rfl) (fun _ _ _ h => h) (Or.inl ⟨by rfl, ?hyn4⟩) (by assumption) ?_
          case hyn4 => (intro w hSw; (try dsimp only at hSw); go_simp <;> with_reducible rfl)
          try simp only [Act.put, List.setIfInBounds_toArray, List.set_cons_zero, List.set_cons_succ]
          refine takeD (i := 5) (d := some 23) (v := ?vn5) rfl rfl (by kernel_rfl) (by kernel_rfl) (by kernel_rfl) (fun _ _ _ h => h) (Or.inl ⟨by rfl, ?hyn5⟩) (by assumption) ?_
          case hyn5 => (intro w hSw; (try dsimp only at hSw); go_simp <;> with_reducible rfl)
          try simp only [Act.put, List.setIfInBounds_toArray, List.set_cons_zero, List.set_cons_succ]
          refine takeD (i := 6) (d := some 24) (v := ?vn6) rfl rfl (by kernel_rfl) (by kernel_rfl) (by kernel_rfl) (fun _ _ _ h => h) (Or.inl ⟨by rfl, ?hyn6⟩) (by assumption) ?_
          case hyn6 => (intro w hSw; (try dsimp only at hSw); go_simp <;> with_reducible rfl)
          try simp only [Act.put, List.setIfInBounds_toArray, List.set_cons_zero, List.set_cons_succ]
          refine takeD (i := 7) (d := some 25) (v := ?vn7) rfl rfl (by kernel_rfl) (by kernel_rfl) (by kernel_rfl) (fun _ _ _ h => h) (Or.inl ⟨by rfl, ?hyn7⟩) (by assumption) ?_
          case hyn7 => (intro w hSw; (try dsimp only at hSw); go_simp <;> with_reducible rfl)
          try simp only [Act.put, List.setIfInBounds_toArray, List.set_cons_zero, List.set_cons_succ]
          generalize wV.drew = wk0n at *
          refine wpAnyH_ready (rs := [8]) (by kernel_rfl) (by simp) ?_
          refine (AllReadyH.cons rfl (fun K hK => ?_) AllReadyH.nil)
          rw [if_pos (by rfl)]
          go_simp
          refine Calls.mono (HAn.out _ hX0n) ?_
          rintro e wk1n ⟨rfl, hb1n⟩
          have hX1n : Below wV.heap.size wV wk1n := bl_then hX0n hb1n
          go_wp2_with fail
          refine hK.out _ _ (by assumption) (fun hHeld => ?_)
          clear hK K
          try simp only [Act.put, List.setIfInBounds_toArray, List.set_cons_zero, List.set_cons_succ]
          refine wpAnyH_ready (rs := [9]) (by kernel_rfl) (by simp) ?_
          refine (AllReadyH.cons rfl (fun K hK => ?_) AllReadyH.nil)
          rw [if_pos (by rfl)]
          go_simp
          refine Calls.mono (HSe.out _) ?_
          rintro e wk2n ⟨rfl, hb2n⟩
          have hX2n : Below wV.heap.size wV wk2n := bl_then hX1n hb2n
          go_wp2_with fail
          refine hK.out _ _ (by assumption) (fun hHeld => ?_)
          clear hK K
          try simp only [Act.put, List.setIfInBounds_toArray, List.set_cons_zero, List.set_cons_succ]
          refine takeD (i := 10) (d := some 28) (v := ?vn10) rfl rfl (by kernel_rfl) (by kernel_rfl) (by kernel_rfl) (fun _ _ _ h => h) (Or.inl ⟨by rfl, ?hyn10⟩) (by assumption) ?_
          case hyn10 => (intro w hSw; (try dsimp only at hSw); go_simp <;> with_reducible rfl)
          try simp only [Act.put, List.setIfInBounds_toArray, List.set_cons_zero, List.set_cons_succ]
          refine wpAnyH_done (by kernel_rfl) ?_ _
          refine NoPanic.normal ?_
          go_wp2_with fail
          go_meet
          case rel => exact ⟨rfl, by rw [HSN.out], by assumption⟩
      obtain ⟨rfl, rfl, hBx⟩ := hcut
      generalize wc = wx at *
      have hBUx : Below wU.heap.size wU wx := bl_then HBV.out hBx
      have HOx : Hid (FRow W.heap.size wx u5 T (okI x y wd ht (lbB z T) k)) := HO.out.below hBUx
      have HBx : Hid (Below W.heap.size W wx) := bl_then HB.out hBUx
      have g0 := v0 _ hBx
      have g1 := v1 _ hBx
      have g2 := v2 _ hBx
      have g3 := v3 _ hBx
      have g4 := v4 _ hBx
      have g5 := v5 _ hBx
      have g6 := v6 _ hBx
      have hWx := HBx.out.size
      clear hBx hBUx HO HB HBV v0 v1 v2 v3 v4 v5 v6 HAn HSk HSP HLE HCr HBw hUV
      cases hok : seenP x y wd ht (lbB z T k)
      case false =>
        have HS1 : Hid (okI x y wd ht (lbB z T) (k + 1) = okI x y wd ht (lbB z T) k) := by show _ = _; rw [HSC.out, hok]; rfl
        clear hok g0 g1 g2 g3 g4 g5 g6
        go_wp2_with fail
        go_roundw
        case rel => exact ⟨k + 1, by have := HLT.out; omega, by go_num, by rw [HS1.out]; exact HOx.out, HBx.out⟩
        case measure => have := HLT.out; simp [intOf]; omega
      case true =>
        have HS1 : Hid (okI x y wd ht (lbB z T) (k + 1) = okI x y wd ht (lbB z T) k ++ [k]) := by show _ = _; rw [HSC.out, hok]; rfl
        clear hok
        obtain ⟨m, hm⟩ : ∃ m, (okI x y wd ht (lbB z T) k).length = m := ⟨_, rfl⟩
        have hOx := HOx.out
        unfold FRow at hOx
        rw [hm] at hOx hok1
        obtain ⟨ua, uc, hu5⟩ : ∃ ua uc, u5 = .slice ua m uc := by
          obtain ⟨_, ⟨h1, h2⟩ | ⟨g', cp, cur, hv, _⟩⟩ := id hOx
          · exact ⟨none, 0, by rw [h1, h2]⟩
          · exact ⟨_, cp, hv⟩
        subst hu5
        have HOw : Hid (wx.ownsRow W.heap.size 36 7 (.slice ua m uc) m (cellsF T (okI x y wd ht (lbB z T) k))) := hOx
        clear hOx HOx
        go_wp2_with (first
          | (at_builtin; go_must (refine wpList_append_own _ rfl _ _ 24 rfl W.heap.size 36 i0 (.agg #[.int .i64 0, .int .i64 0, .int .i64 0, .int .i64 0, .slice none 0 0, .string ⟨#[]⟩, .int .i64 0]) 7 80 Tryz.underlying24 hi hz0 hz1 hz2 rfl (by decide) (.slice ua m uc) m (cellsF T (okI x y wd ht (lbB z T) k)) rfl ?c6 ⟨wx.heap.size, 0, none⟩ 1 1 (fcell { T k with a := some ⟨b', off', none⟩ }) rfl ?c0 ?c1 ?c2 ?c3 ?c4 ?c5 ?_)))
        case c6 => exact World.ownsRow.belowL HOw.out (by (repeat (first | exact Below.refl _ _ | assumption | refine Below.drew ?_ | refine bl_alloc ?_ _ | refine bl_then ?_ (by assumption) | refine Below.setCell ?_ (by first | omega | (simp; done) | (simp; omega)) _ | refine bl_store ?_ ?_ _ _)))
        case c0 => rfl
        case c1 =>
          intro q u hq
          have hq7 : q < 7 := (List.getElem?_eq_some_iff.1 hq).1
          have hc : q = 0 ∨ q = 1 ∨ q = 2 ∨ q = 3 ∨ q = 4 ∨ q = 5 ∨ q = 6 := by omega
          rcases hc with rfl | rfl | rfl | rfl | rfl | rfl | rfl <;> (simp [fcell] at hq; subst hq; simp [Addr.add, go_sem])
        case c2 => exact fcell_one _
        case c3 => unfold maxLen; omega
        case c4 => omega
        case c5 => first | omega | (simp; omega)
        intro v' w4 hown' hgrow hnil
        have eT : ({ T k with a := some ⟨b', off', none⟩ } : Feat) = T k := by rw [← HA'.out]
        rw [eT] at hown'
        have HO4 : Hid (FRow W.heap.size w4 v' T (okI x y wd ht (lbB z T) (k + 1))) := by
          show FRow _ _ _ _ _
          unfold FRow
          rw [HS1.out, cellsF_app, cellsF_one, List.length_append, hm]
          exact hown'
        have HB4 : Hid (Below W.heap.size W w4) := (bl_then HBx.out (by (repeat (first | exact Below.refl _ _ | assumption | refine Below.drew ?_ | refine bl_alloc ?_ _ | refine bl_then ?_ (by assumption) | refine Below.setCell ?_ (by first | omega | (simp; done) | (simp; omega)) _ | refine bl_store ?_ ?_ _ _)))).grown hgrow (by simp; omega) (fun q hq => (World.ownsRow.lt (World.ownsRow.belowL HOw.out (by (repeat (first | exact Below.refl _ _ | assumption | refine Below.drew ?_ | refine bl_alloc ?_ _ | refine bl_then ?_ (by assumption) | refine Below.setCell ?_ (by first | omega | (simp; done) | (simp; omega)) _ | refine bl_store ?_ ?_ _ _)))) q hq).1)
        clear hown' hgrow hnil g0 g1 g2 g3 g4 g5 g6 eT
        go_wp2_with fail
        go_roundw
        case rel => exact ⟨k + 1, by have := HLT.out; omega, by go_num, HO4.out, HB4.out⟩
        case measure => have := HLT.out; simp [intOf]; omega
    · obtain rfl : k = n := by omega
      have hF := HO.out
      have hlk := okI_len x y wd ht (lbB z T) k
      have hF2 := hF.byRange
      have hsort := sortL_any (okI x y wd ht (lbB z T) k).length W.heap.size u5 _ wr hF2 (by omega)
      obtain ⟨F, hFe⟩ : ∃ F, okI x y wd ht (lbB z T) k = F := ⟨_, rfl⟩
      have HFe := (show Hid _ from hFe)
      rw [hFe] at hsort hF hlk
      obtain ⟨ua, uc, hu5⟩ : ∃ ua uc, u5 = .slice ua F.length uc := by
        rcases hF.at with ⟨hv, hl⟩ | ⟨g', c', hv, _⟩
        · exact ⟨none, 0, by rw [hv, hl]; rfl⟩
        · exact ⟨_, c', hv⟩
      subst hu5
      have hwr := HB.out.size
      have HSo : Hid (Calls Tryz.prog 70 #[.slice ua F.length uc, .func (.func 71) #[] #[]] wr fun e w' => e = .returned (.tuple #[]) ∧ Below w.heap.size w w' ∧ CamAt w' w.heap.size z x y wd ht ∧ ∃ S : List Nat, S = (srtL k T).filter (fun i => seenP x y wd ht (lbB z T i)) ∧ S.length = F.length ∧ ∀ i, i < F.length → S.getD i 0 < k ∧ ∃ g, ua = some ⟨g, 0, none⟩ ∧ g < w'.heap.size ∧ FeatAt w' g (i * 7) (T (S.getD i 0)).id (T (S.getD i 0)).la (T (S.getD i 0)).ki (T (S.getD i 0)).wi (.slice (T (S.getD i 0)).a (T (S.getD i 0)).n (T (S.getD i 0)).cap) (T (S.getD i 0)).lab (T (S.getD i 0)).pr) := by
        refine hsort.mono ?_
        rintro e w' ⟨he, hres⟩
        have hFf : F = (List.range k).filter (fun i => seenP x y wd ht (lbB z T i)) := HFe.out.symm
        rcases hres with ⟨h0, rfl⟩ | ⟨g, c, l, hv, hg, hgl, hp, hs, hgr, hT, hA⟩
        · refine ⟨he, HB0.out.trans (HB.out.mono (by omega)), CamAt_bl HC.out HB.out, _, rfl, ?_, fun i hi => by omega⟩
          have := ((srtK_perm (fun i => (T i).pr) (fun i => (T i).id) k).filter (fun i => seenP x y wd ht (lbB z T i))).length_eq
          rw [hFf]; exact this
        · injection hv with e1 e2 e3
          subst e1
          have hS := srtL_ok k T HAP.out (fun i => seenP x y wd ht (lbB z T i)) l (by rw [← hFf]; exact hp) (by rw [← hFf]; exact hs)
          rw [← hFf] at hS
          have hll : l.length = F.length := by simpa using hp.length_eq
          have hSl : ((srtL k T).filter (fun i => seenP x y wd ht (lbB z T i))).length = F.length := by rw [← hS, List.length_map, hll]
          have hgs := hgr.size
          refine ⟨he, (HB0.out.trans (HB.out.mono (by omega))).grown hgr (by omega) (fun q hq => by injection hq with hq; omega), ?_, _, rfl, hSl, fun i hi => ?_⟩
          · obtain ⟨a0, a1, a2, a3, a4⟩ := CamAt_bl HC.out HB.out
            have hne : w.heap.size ≠ g := by omega
            exact ⟨hgr.cell a0 (fun e => by injection e with e; exact hne e), hgr.cell a1 (fun e => by injection e with e; exact hne e), hgr.cell a2 (fun e => by injection e with e; exact hne e), hgr.cell a3 (fun e => by injection e with e; exact hne e), hgr.cell a4 (fun e => by injection e with e; exact hne e)⟩
          · have hge : ((srtL k T).filter (fun i => seenP x y wd ht (lbB z T i))).getD i 0 = F.getD (l.getD i 0) 0 := by
              rw [← hS]
              simp [List.getD_eq_getElem?_getD, hll, hi]
            have hlt2 : ((srtL k T).filter (fun i => seenP x y wd ht (lbB z T i))).getD i 0 < k := by
              have hi2 : i < ((srtL k T).filter (fun i => seenP x y wd ht (lbB z T i))).length := by rw [hSl]; exact hi
              rw [List.getD_eq_getElem?_getD, List.getElem?_eq_getElem hi2]
              exact (srtK_mem _ _ k _).1 (List.mem_filter.1 (List.getElem_mem hi2)).1
            refine ⟨hlt2, g, rfl, by omega, ?_⟩
            rw [hge]
            exact hA i hi
      clear hsort hF hF2 HO HFe hFe
      go_wp2_with fail
      refine Calls.mono HSo.out ?_
      rintro e w3 ⟨rfl, hB3, hC3, S, hS, hSl, hA3⟩
      have HB3 : Hid (Below w.heap.size w w3) := hB3
      have HC3 : Hid (CamAt w3 w.heap.size z x y wd ht) := hC3
      have HSe2 : Hid (S = (srtL k T).filter (fun i => seenP x y wd ht (lbB z T i))) := hS
      have HA3 := (show Hid _ from hA3)
      have hw3 := hB3.size
      clear hB3 hC3 hS hA3 HSo HC HB
      generalize F.length = m at *
      have HCw : Hid (∀ i, i < m → seenP x y wd ht (lbB z T (S.getD i 0)) = true) := fun i hi => by
        have := List.mem_filter.1 (show S.getD i 0 ∈ (srtL k T).filter (fun i => seenP x y wd ht (lbB z T i)) from by
          rw [← HSe2.out, List.getD_eq_getElem?_getD, List.getElem?_eq_getElem (by omega)]
          exact List.getElem_mem _)
        exact this.2
      go_wp2_with fail
      go_loopw [8, 38] (fun v i wr => ∃ j : Nat, j ≤ m ∧ i = .int .i64 (j : Int) ∧ (∃ a c', v = .slice a (plsP x y wd ht (lbB z T) (S.take j)).length c') ∧ PRow w3.heap.size wr v (plsP x y wd ht (lbB z T) (S.take j)) ∧ Below w3.heap.size w3 wr) (fun _ i _ => m - (intOf i).toNat)
      case atStart => exact ⟨0, by omega, rfl, ⟨none, 0, by simp [plsP]⟩, by simpa [plsP, PRow, plsCs] using World.ownsRow_nil _ _ _ _, Below.refl _ _⟩
      case round =>
        obtain ⟨j, hj', rfl, ⟨a, c', rfl⟩, hO, hB⟩ := hrel
        have HO : Hid (PRow w3.heap.size wr (.slice a (plsP x y wd ht (lbB z T) (S.take j)).length c') (plsP x y wd ht (lbB z T) (S.take j))) := hO
        have HB : Hid (Below w3.heap.size w3 wr) := hB
        have hml := plsP_len x y wd ht (lbB z T) S j
        clear hO hB
        by_cases hlt : j < m
        · have HLT : Hid (j < m) := hlt
          have HSc : Hid (plsP x y wd ht (lbB z T) (S.take (j + 1)) = stepP x y wd ht (lbB z T) (plsP x y wd ht (lbB z T) (S.take j)) (S.getD j 0)) := plsP_succ x y wd ht (lbB z T) S j (by omega)
          obtain ⟨hIk, g, hg, hgl, hfa⟩ := HA3.out j hlt
          have hsn := HCw.out j hlt
          obtain ⟨I, hI⟩ : ∃ I, S.getD j 0 = I := ⟨_, rfl⟩
          rw [hI] at HSc hIk hfa hsn
          obtain ⟨L, hL⟩ : ∃ L, plsP x y wd ht (lbB z T) (S.take j) = L := ⟨_, rfl⟩
          rw [hL] at HO HSc hml
          rw [hL]
          clear hL hI
          subst hg
          obtain ⟨hp0, hpin, hpl⟩ := HP.out I hIk
          obtain ⟨b1, hga, hbl, hfs⟩ := HG.out.resolve_left (by omega)
          obtain ⟨b', off', ha', hbl', hptk⟩ := (hfs I hIk).2.resolve_left (by omega)
          rw [ha'] at hfa
          have HBw : Hid (Below w.heap.size w wr) := HB3.out.trans (HB.out.mono hw3)
          obtain ⟨f0, f1, f2, f3, f4, f5, f6⟩ := hfa.below HB.out hgl
          obtain ⟨c0, _⟩ := CamAt_bl HC3.out HB.out
          have HLb : Hid (∀ W', Below wr.heap.size wr W' → Calls Tryz.prog 34 #[.agg #[.int .i64 (T I).id, .int .i64 (T I).la, .int .i64 (T I).ki, .int .i64 (T I).wi, .slice (some ⟨b', off', none⟩) (T I).n (T I).cap, .string (T I).lab, .int .i64 (T I).pr], .int .i64 z] W' fun e w' => e = .returned (plcV (lbB z T I)) ∧ Below W'.heap.size W' w') := fun W' h =>
            labelAsItIs_any (T I).id (T I).la (T I).ki (T I).wi z b' (T I).n (T I).cap (T I).X (T I).Y (T I).lab (T I).pr W' (hptk.below (bl_then HBw.out h) hbl') (Nat.lt_of_lt_of_le hbl' (bl_then HBw.out h).size) hp0 hpin HZ.out hpl
          have HS1 : Hid (plsP x y wd ht (lbB z T) (S.take (j + 1)) = if L.all (fun e => !ovB e (lbB z T I)) = true then L ++ [lbB z T I] else L) := by show _ = _; rw [HSc.out]; unfold stepP; rw [hsn, if_pos rfl]
          have hi' : (j : Int) < (m : Int) := by omega
          have hi0 : (0 : Int) ≤ (j : Int) := by omega
          obtain ⟨E, hE⟩ : ∃ E, lbB z T I = E := ⟨_, rfl⟩
          rw [hE] at HLb HS1
          clear hfa hptk hp0 hpin hpl ha' hlt hsn hfs hga HSc hE
          generalize wr = wU at *
          have c0' : ∀ o, (wU.alloc o).cell? ⟨w.heap.size, 0, none⟩ = some (.int .i64 z) := fun o => bl_cell (by (repeat (first | exact Below.refl _ _ | assumption | refine Below.drew ?_ | refine bl_alloc ?_ _ | refine bl_then ?_ (by assumption) | refine Below.setCell ?_ (by first | omega | (simp; done) | (simp; omega)) _ | refine bl_store ?_ ?_ _ _))) c0
          go_wp2_with fail
          generalize hV : (wU.alloc _ : World) = wV
          have HBV : Hid (Below wU.heap.size wU wV) := by show Below _ _ _; subst hV; (repeat (first | exact Below.refl _ _ | assumption | refine Below.drew ?_ | refine bl_alloc ?_ _ | refine bl_then ?_ (by assumption) | refine Below.setCell ?_ (by first | omega | (simp; done) | (simp; omega)) _ | refine bl_store ?_ ?_ _ _))
          clear hV f0 f1 f2 f3 f4 f5 f6 c0 c0'
          refine Calls.mono (HLb.out _ HBV.out) ?_
          rintro e wL ⟨rfl, hbL⟩
          have HBL : Hid (Below wU.heap.size wU wL) := bl_then HBV.out hbL
          clear hbL HBV HLb
          go_wp2_with fail
          generalize hX : (wL.alloc _ : World) = wX
          have HBX : Hid (Below wU.heap.size wU wX) := bl_then HBL.out (by subst hX; (repeat (first | exact Below.refl _ _ | assumption | refine Below.drew ?_ | refine bl_alloc ?_ _ | refine bl_then ?_ (by assumption) | refine Below.setCell ?_ (by first | omega | (simp; done) | (simp; omega)) _ | refine bl_store ?_ ?_ _ _)))
          have HPX : Hid (PlcAt wX wL.heap.size 0 E) := by show PlcAt _ _ _ _; subst hX; refine ⟨?_, ?_, ?_, ?_, ?_⟩ <;> simp [go_sem]
          clear hX HBL
          have HOX : Hid (PRow w3.heap.size wX (.slice a L.length c') L) := HO.out.below HBX.out
          have HBX3 : Hid (Below w3.heap.size w3 wX) := bl_then HB.out HBX.out
          have hfo := firstOver_any a L.length c' (fun i => L.getD i zPl) E wX (by
            obtain ⟨a9, c9, hv9, hc9, hI9⟩ := HOX.out.own.pts
            injection hv9 with e1 e2 e3
            subst e1
            exact hI9) (by omega)
          have HFO := (show Hid _ from hfo)
          have HFI : Hid ((L.all (fun e => !ovB e E) = true ∧ firstI (fun i => ovB E (L.getD i zPl)) L.length < 0) ∨ (L.all (fun e => !ovB e E) = false ∧ ¬ firstI (fun i => ovB E (L.getD i zPl)) L.length < 0)) := by
            rcases firstI_or (fun i => ovB E (L.getD i zPl)) L.length with ⟨h1, h2⟩ | ⟨i, hi, hg, hf, _⟩
            · refine .inl ⟨List.all_eq_true.2 (fun e he => ?_), by rw [h1]; decide⟩
              obtain ⟨i, hi, rfl⟩ := List.getElem_of_mem he
              have := h2 i hi
              simp only [List.getD_eq_getElem?_getD, List.getElem?_eq_getElem hi, Option.getD_some] at this
              rw [ov_sym, this]; rfl
            · refine .inr ⟨?_, by rw [hf]; omega⟩
              cases hall : L.all (fun e => !ovB e E)
              · rfl
              · have := List.all_eq_true.1 hall _ (List.getElem_mem hi)
                simp only [List.getD_eq_getElem?_getD, List.getElem?_eq_getElem hi, Option.getD_some] at hg
                rw [ov_sym, hg] at this
                cases this
          obtain ⟨p0, p1, p2, p3, p4⟩ := HPX.out
          simp only [Nat.zero_add] at p1 p2 p3 p4
          have hw3x := HBX3.out.size
          clear hfo HBX HO HB HBw
          generalize firstI (fun i => ovB E (L.getD i zPl)) L.length = fi at *
          go_wp2_with fail
          refine Calls.mono HFO.out ?_
          rintro e wY ⟨rfl, hbY⟩
          have q0 := bl_cell hbY p0
          have q1 := bl_cell hbY p1
          have q2 := bl_cell hbY p2
          have q3 := bl_cell hbY p3
          have q4 := bl_cell hbY p4
          have HOY : Hid (PRow w3.heap.size wY (.slice a L.length c') L) := HOX.out.below hbY
          have HBY : Hid (Below w3.heap.size w3 wY) := bl_then HBX3.out hbY
          have hw3y := HBY.out.size
          clear hbY p0 p1 p2 p3 p4 HPX HOX HBX3 HFO
          rcases HFI.out with ⟨hall, hfi⟩ | ⟨hall, hfi⟩
          · have HS2 : Hid (plsP x y wd ht (lbB z T) (S.take (j + 1)) = L ++ [E]) := by show _ = _; rw [HS1.out, hall]; rfl
            clear hall HFI HS1
            go_wp2_with (first
              | (at_builtin; go_must (refine wpList_append_own _ rfl _ _ 29 rfl w3.heap.size 38 j0 (.agg zeroP) 5 40 Tryz.underlying29 hj hy0 hy1 hy2 rfl (by decide) (.slice a L.length c') L.length (plsCs L) rfl ?c6 ⟨wY.heap.size, 0, none⟩ 1 1 (plcCs E) rfl ?c0 ?c1 ?c2 ?c3 ?c4 ?c5 ?_)))
            case c6 => exact HOY.out.below (by (repeat (first | exact Below.refl _ _ | assumption | refine Below.drew ?_ | refine bl_alloc ?_ _ | refine bl_then ?_ (by assumption) | refine Below.setCell ?_ (by first | omega | (simp; done) | (simp; omega)) _ | refine bl_store ?_ ?_ _ _)))
            case c0 => rfl
            case c1 =>
              intro q u hq
              have hq5 : q < 5 := (List.getElem?_eq_some_iff.1 hq).1
              have hc : q = 0 ∨ q = 1 ∨ q = 2 ∨ q = 3 ∨ q = 4 := by omega
              rcases hc with rfl | rfl | rfl | rfl | rfl <;> (simp [plcCs] at hq; subst hq; simp [Addr.add, go_sem])
            case c2 => exact plcCs_one _
            case c3 => unfold maxLen; omega
            case c4 => omega
            case c5 => first | omega | (simp; omega)
            intro v' w4 hown' hgrow hnil
            obtain ⟨g4, c4, hv4⟩ : ∃ g4 c4, v' = .slice g4 (L.length + 1) c4 := by
              obtain ⟨_, ⟨h1, h2⟩ | ⟨g', cp, cur, hv, _⟩⟩ := id hown'
              · omega
              · exact ⟨_, cp, hv⟩
            subst hv4
            have hbA : Below wY.heap.size wY (wY.alloc (.cells (plcCs E).toArray 38)) := by (repeat (first | exact Below.refl _ _ | assumption | refine Below.drew ?_ | refine bl_alloc ?_ _ | refine bl_then ?_ (by assumption) | refine Below.setCell ?_ (by first | omega | (simp; done) | (simp; omega)) _ | refine bl_store ?_ ?_ _ _))
            have HO4 : Hid (PRow w3.heap.size w4 (.slice g4 (L.length + 1) c4) (L ++ [E])) := by
              show World.ownsRow _ _ _ _ _ _ _
              rw [plsCs_app, List.length_append]
              have e1 : plsCs [E] = plcCs E := by simp [plsCs]
              rw [e1]
              exact hown'
            have HB4 : Hid (Below w3.heap.size w3 w4) := (bl_then HBY.out hbA).grown hgrow (by simp; omega) (fun q hq => (World.ownsRow.lt (HOY.out.below hbA) q hq).1)
            clear hown' hgrow hnil hbA q0 q1 q2 q3 q4
            go_wp2_with fail
            go_roundw
            case rel => exact ⟨j + 1, by have := HLT.out; omega, by go_num, ⟨g4, c4, by rw [HS2.out, List.length_append]; rfl⟩, by rw [HS2.out]; exact HO4.out, HB4.out⟩
            case measure => have := HLT.out; simp [intOf]; omega
          · have HS2 : Hid (plsP x y wd ht (lbB z T) (S.take (j + 1)) = L) := by show _ = _; rw [HS1.out, hall]; rfl
            clear hall HFI HS1
            go_wp2_with fail
            go_roundw
            case rel => exact ⟨j + 1, by have := HLT.out; omega, by go_num, ⟨a, c', by rw [HS2.out]⟩, by rw [HS2.out]; exact HOY.out, HBY.out⟩
            case measure => have := HLT.out; simp [intOf]; omega
        · obtain rfl : j = m := by omega
          have hT : S.take j = S := List.take_of_length_le (by omega)
          rw [hT] at HO ⊢
          clear hT
          have HFin : Hid (plsP x y wd ht (lbB z T) S = plsP x y wd ht (lbB z T) (srtL k T)) := by show _ = _; rw [HSe2.out, ← seenP_filter]
          rw [HFin.out] at HO ⊢
          go_wp2_with fail
          go_ret
          exact ⟨_, rfl, HO.out.wide hw3, HB3.out.trans (HB.out.mono hw3)⟩
end Go.Proofs.YtdohlnnbibnnbaaGreat
